/- Rows of their own; labels taken; the pure half of stage 8. -/
import Derived.Test.YteifaipbckhoiabMe
import Derived.Test.YteifaipbckhoiabMd
import Derived.Test.YteifaipbckhoiabMf
import Derived.Test.YteifaipbckhoiabMg
import Derived.Laws.BytesArg
namespace Go.Proofs.Yteifaipbckhoiab
open Go.RowKit
set_option linter.unusedVariables false

section
theorem info5 : ∃ i, Try.prog.info? 5 = some i ∧ i.zero = some (.int .u8 0) ∧ i.size = 1 ∧ i.bytes = 1 := ⟨(Try.prog.info? 5).getD default, by kernel_rfl, by kernel_rfl, by kernel_rfl, by kernel_rfl⟩

/-- The slice v holds the bytes l, in a block of its own, B or above, or is nil. -/
def Ow (B : Nat) (w : World) (v : Value) (l : List Int) : Prop :=
  Byt l ∧ l.length ≤ 140737488355328 ∧ w.ownsRow B 5 1 v l.length (l.map (Value.int .u8))

theorem Ow.bs {B : Nat} {w : World} {v : Value} {l : List Int} (h : Ow B w v l) : Bs (fun b => B ≤ b) w v l := by
  obtain ⟨h1, h2, h3⟩ := h
  refine ⟨h1, h2, ?_⟩
  have hc := fun g => h3.cells (g := g)
  rcases h3.2 with ⟨rfl, hn⟩ | ⟨g, cap, cur, rfl, hb, hg, hcap, _⟩
  · exact Or.inl ⟨rfl, List.length_eq_zero_iff.1 hn⟩
  · refine Or.inr ⟨g, 0, cap, rfl, hcap, hb, (Array.getElem?_eq_some_iff.1 hg).1, fun i hi => ?_⟩
    have h := hc g rfl i (.int .u8 (l.getD i 0)) (by
      rw [List.getElem?_map, List.getElem?_eq_getElem hi, List.getD_eq_getElem?_getD, List.getElem?_eq_getElem hi]
      rfl)
    rw [Addr.add_lit] at h
    exact h
theorem Ow.keep {B : Nat} {w w' : World} {v : Value} {l : List Int} (h : Ow B w v l) (k : Below w.heap.size w w') : Ow B w' v l :=
  ⟨h.1, h.2.1, h.2.2.kept (row := none) ⟨k.os, k.tape, k.output, k.size, fun i hi _ => k.block i hi⟩ (by cases hv : v.ownBlock <;> simp)⟩
theorem Ow.len {B : Nat} {w : World} {v : Value} {l : List Int} (h : Ow B w v l) : ∃ a cap, v = .slice a l.length cap := h.bs.len
theorem Ow.lower {B B' : Nat} {w : World} {v : Value} {l : List Int} (h : Ow B w v l) (hB : B' ≤ B) : Ow B' w v l := by
  obtain ⟨h1, h2, h3, h4⟩ := h
  refine ⟨h1, h2, h3, ?_⟩
  rcases h4 with h4 | ⟨g, cap, cur, hv, hb, hr⟩
  · exact Or.inl h4
  · exact Or.inr ⟨g, cap, cur, hv, Nat.le_trans hB hb, hr⟩
theorem Ow.new (w : World) (l : List Int) (hl : Byt l) (hb : l.length ≤ 140737488355328) : Ow w.heap.size (w.alloc (.cells (u8s l) 5)) (.slice (some ⟨w.heap.size, 0, none⟩) l.length l.length) l := by
  refine ⟨hl, hb, by simp, Or.inr ⟨w.heap.size, l.length, u8s l, rfl, Nat.le_refl _, heap_alloc_new _ _, Nat.le_refl _, by simp only [maxLen]; omega, by simp [u8s], ?_⟩⟩
  rw [Nat.mul_one, List.take_of_length_le (by simp [u8s])]
  rfl
theorem Ow.all {B : Nat} {w : World} {v : Value} {l : List Int} (h : Ow B w v l) : Bx w.heap.size w v l := Or.inl (h.bs.weaken (fun _ hb _ => hb))

theorem below_grown {B : Nat} {w w' : World} {row : Option Nat} (h : w.grownBy w' row) (hB : B ≤ w.heap.size) (hr : ∀ k, row = some k → B ≤ k) : Below B w w' :=
  ⟨h.os, h.tape, h.output, h.size, fun k hk => h.block k (by omega) (fun e => by have := hr k e.symm; omega)⟩

/-- The bytes of a row that is read: its address, and its cells. -/
theorem Bx.openB {N : Nat} {w : World} {v : Value} {l : List Int} (h : Bx N w v l) :
    (v = .slice none 0 0 ∧ l = []) ∨ ∃ a c, v = .slice (some a) l.length c ∧ ∀ j u, (l.map (Value.int .u8))[j]? = some u → w.cell? (a.add j) = some u := by
  rcases h with ⟨_, _, h3⟩ | ⟨rfl, x, cap, rfl⟩
  · rcases h3 with h3 | ⟨b, off, cap, rfl, _, _, _, hc⟩
    · exact Or.inl h3
    · refine Or.inr ⟨_, _, rfl, fun j u hj => ?_⟩
      have hj' : j < l.length := by
        by_cases hh : j < l.length
        · exact hh
        · rw [List.getElem?_eq_none (by simp; omega)] at hj; cases hj
      have := hc j hj'
      rw [List.getElem?_map, List.getElem?_eq_getElem hj'] at hj
      simp only [Option.map_some, Option.some.injEq] at hj
      rw [List.getD_eq_getElem?_getD, List.getElem?_eq_getElem hj', Option.getD_some] at this
      rw [← hj, Addr.add_lit]
      exact this
  · exact Or.inr ⟨x, cap, rfl, fun j u hj => by cases hj⟩

/-- An append onto a row of its own. -/
theorem append_ow {N B : Nat} {w : World} {v x : Value} {ld l : List Int} (h : Ow B w v ld) (hx : Bx N w x l) (hl : Byt l) (hB : B ≤ w.heap.size) (hb : ld.length + l.length ≤ 140737488355328) (ty : TypeId) :
    ∃ v' w', (Builtin.append_ #[27, 27] ty #[v, x]).run Try.prog w = .ok v' w' ∧ Ow B w' v' (ld ++ l) ∧ Below B w w' := by
  obtain ⟨i, hi, hz, hs, hby⟩ := info5
  rcases hx.openB with ⟨e1, e2⟩ | ⟨a, c, e1, hc⟩
  · subst e1; subst e2
    refine ⟨v, w, ?_, by rw [List.append_nil]; exact h, Below.refl _ _⟩
    rcases h.2.2.2 with ⟨rfl, hn⟩ | ⟨g, cap, cur, rfl, _, hg, hcap, _⟩
    · simp [Builtin.append_, run_underlying Try.underlying27, sizeOf, typeInfo, hi, Builtin.lenOf, Builtin.firstCells]
    · exact append_none (P := Try.prog) Try.underlying27 hi hs g 0 ld.length cap (Src.ofNil (P := Try.prog) w Try.underlying27 0) hcap
  · subst e1
    obtain ⟨v', w', hr, ho, hg, _⟩ := run_append_own (P := Try.prog) w B 27 ty 5 i (.int .u8 0) 1 1 Try.underlying27 hi hz hs hby rfl (by omega) v ld.length (ld.map (Value.int .u8)) h.2.2 a l.length c (l.map (Value.int .u8)) (by simp) hc
      (fun u hu => by obtain ⟨_, _, rfl⟩ := List.mem_map.1 hu; rfl) (by simp only [maxLen]; omega) (by omega) hB
    refine ⟨v', w', hr, ⟨h.1.append hl, by simpa using hb, ?_⟩, below_grown hg hB (fun k hk => (h.2.2.lt k hk).1)⟩
    rw [List.length_append, List.map_append]
    exact ho

/-- How a row is handed back, with no error. -/
def OwEnd (w : World) (l : List Int) (e : Ending) (w' : World) : Prop :=
  ∃ a cap, e = .returned (.tuple #[.slice a l.length cap, .int .i64 0]) ∧ Ow w.heap.size w' (.slice a l.length cap) l ∧ Below w.heap.size w w'

theorem U_ow (n : Int) (w : World) (h0 : 0 ≤ n) (h1 : n ≤ 9007199254740991) :
    Calls Try.prog 19 #[.int .i64 n] w fun e w' => OwEnd w (Num.enc n) e w' := by
  refine (U_ok n w h0 h1).mono ?_
  rintro e w' ⟨rfl, rfl⟩
  have hl := Num.enc_length n
  have h8 := Num.sz_bd n h0
  exact ⟨_, _, rfl, (Ow.new w _ (enc_byt n h0 (by omega)) (by omega)).keep (Below.refl _ _).drew, (below1 _ _).drew⟩

theorem p_bd (P : BitVec 32) : 0 ≤ (P.toNat : Int) ∧ (P.toNat : Int) ≤ 4294967295 := by
  have := P.isLt
  omega

set_option maxRecDepth 100000 in
set_option maxHeartbeats 1000000 in
theorem bytes_ok (x p : Int) (w : World) (hx : okL x = true) (hp : 0 ≤ p ∧ p ≤ 4294967295) :
    Calls Try.prog 63 #[.agg #[.int .i64 x, .int .u32 p]] w fun e w' => OwEnd w (Num.enc x ++ Num.enc p) e w' := by
  have HO := hd hx
  have HX := hd (okL_true hx)
  have HP := hd hp
  have hp0 := hp.1
  have hp1 := hp.2
  clear hx hp
  go_enter Try.func63, Try.ntmps63
  go_wp2_with fail
  have A1 := Lb.new w x p
  have B1 := below1 w (Obj.cells #[Value.int IntKind.i64 x, Value.int IntKind.u32 p] 40)
  generalize hN : w.heap.size = N at *
  have HN := hd hN
  clear hN
  generalize w.alloc (Obj.cells #[Value.int IntKind.i64 x, Value.int IntKind.u32 p] 40) = w1 at *
  refine (check_any x p w1).mono ?_
  rintro e w2 ⟨rfl, hk⟩
  rw [← HN.out] at B1
  have B2 := hd (below_below B1 hk)
  have A2 := hd (A1.keep hk)
  clear A1 B1 hk
  have c0 := A2.out.c0
  have c1 := A2.out.c1
  rw [HO.out]
  simp only [if_true]
  go_wp2_with fail
  refine (U_ow x w2 (by have := HX.out; omega) (by have := HX.out; omega)).mono ?_
  rintro e w3 ⟨a, cap, rfl, ho, hk⟩
  have B3 := hd (below_below B2.out hk)
  have A3 := hd (A2.out.keep hk)
  have O3 := hd (ho.lower B2.out.size)
  clear c0 c1 hk ho A2 B2
  have c0 := A3.out.c0
  have c1 := A3.out.c1
  go_wp2_with fail
  refine (U_ow p w3 (by have := HP.out; omega) (by have := HP.out; omega)).mono ?_
  rintro e w4 ⟨a2, cap2, rfl, ho, hk⟩
  have B4 := hd (below_below B3.out hk)
  have O4 := hd (O3.out.keep hk)
  obtain ⟨v', w5, hrun, ho5, hk5⟩ := append_ow (ty := 27) O4.out ho.all ho.1 B4.out.size (by
    have h1 := Num.enc_length x
    have h2 := Num.enc_length p
    have h3 := Num.sz_bd x HX.out.1
    have h4 := Num.sz_bd p HP.out.1
    omega)
  obtain ⟨a5, cap5, rfl⟩ := ho5.len
  have HR := hd hrun
  have HO5 := hd ho5
  have HK5 := hd (B4.out.trans hk5)
  clear c0 c1 hk ho A3 B3 O3 O4 B4 hrun ho5 hk5
  go_wp2_with (at_builtin; refine wpList_append_run _ rfl _ _ _ _ rfl _ _ rfl rfl _ w5 HR.out ?_)
  go_ret2
  refine ⟨a5, cap5, ?_, HO5.out, HK5.out⟩
  rw [List.length_append]
  rfl

set_option maxRecDepth 100000 in
set_option maxHeartbeats 1000000 in
theorem bytes_bad (x p : Int) (w : World) (hx : okL x = false) :
    Calls Try.prog 63 #[.agg #[.int .i64 x, .int .u32 p]] w fun e w' => VEnd w (.tuple #[.slice none 0 0, .int .i64 9]) e w' := by
  have HO := hd hx
  clear hx
  go_enter Try.func63, Try.ntmps63
  go_wp2_with fail
  refine (check_any x p _).mono ?_
  rintro e w2 ⟨rfl, hk⟩
  have B2 := hd (below_below (below1 w (Obj.cells #[Value.int IntKind.i64 x, Value.int IntKind.u32 p] 40)) hk)
  clear hk
  rw [HO.out]
  simp only [Bool.false_eq_true, if_false]
  go_wp2_with fail
  go_ret2
  exact VEnd.mk B2.out

end

section
variable {RB : Nat}

/-- What Take tells, what is left, and the reader's error: of the two numbers that are taken off. -/
def tkLab (n1 n2 : Int) (l2 : List Int) (e2 : Int) : Int × Int × List Int × Int :=
  if e2 ≠ 0 then (0, 0, l2, e2) else if 7 < n1 ∨ 4294967295 < n2 then (0, 0, [], 4) else (n1, n2, l2, 0)

def LabEnd (RB : Nat) (w : World) (rb : Nat) (r : Int × Int × List Int × Int) (e : Ending) (w' : World) : Prop :=
  e = .returned (.agg #[.int .i64 r.1, .int .u32 r.2.1]) ∧ Rd RB w' rb r.2.2.1 r.2.2.2 ∧ Kp (fun b => b = rb) w w'

theorem Kp.old {S : Nat → Prop} {w w' : World} (h : Kp S w w') {b : Nat} {x p : Int} (hl : Lb w b x p) (hs : ¬ S b) : Lb w' b x p := (h.block b hl.lt hs).trans hl
theorem Rd.setO {w : World} {rb : Nat} {l : List Int} {e : Int} (h : Rd RB w rb l e) (g o : Nat) (v : Value) (h1 : g ≠ rb) (h2 : g < RB ∨ rb < g) (hle : RB ≤ rb) : Rd RB (w.setCell ⟨g, o, none⟩ v) rb l e :=
  h.keepO (rb' := g) ((Kp.refl (fun b => b = g) w).setCell ⟨g, o, none⟩ v (fun _ => rfl)) (by omega) hle

theorem err_zero {most n : Int} {l l' : List Int} {e e' : Int} (h : uStep most l e = (n, l', e')) (he : e' ≠ 0) : n = 0 := by
  unfold uStep at h
  split at h
  · injection h with h _; exact h.symm
  · split at h
    · injection h with h _; exact h.symm
    · injection h with _ h
      injection h with _ h
      exact absurd h.symm he

set_option maxRecDepth 100000 in
set_option maxHeartbeats 2000000 in
theorem Lab_is {w : World} {rb : Nat} {l l1 l2 : List Int} {e0 n1 e1 n2 e2 : Int} (h : Rd RB w rb l e0) (hle : RB ≤ rb) (hl : Byt l) (h1 : uStep 9007199254740991 l e0 = (n1, l1, e1)) (h2 : uStep 9007199254740991 l1 e1 = (n2, l2, e2)) :
    Calls Try.prog 70 #[.pointer (some ⟨rb, 0, none⟩)] w fun e w' => LabEnd RB w rb (tkLab n1 n2 l2 e2) e w' := by
  obtain ⟨r, hr⟩ : ∃ r, tkLab n1 n2 l2 e2 = r := ⟨_, rfl⟩
  rw [hr]
  have HR := hd hr
  have HB : Hid (0 ≤ n2 ∧ n2 ≤ 9007199254740991) := hd (by
    have := uStep_bd 9007199254740991 l1 e1 (by omega) (by
      unfold uStep at h1
      split at h1
      · injection h1 with _ h; injection h with h _; rw [← h]; exact hl
      · split at h1
        · injection h1 with _ h; injection h with h _; rw [← h]; exact Byt.nil
        · injection h1 with _ h; injection h with h _; rw [← h]; exact hl.drop _)
    rw [h2] at this
    exact this)
  have HZ : Hid (e2 ≠ 0 → n2 = 0) := hd (err_zero h2)
  have H := hd h
  have H1 := hd h1
  have H2 := hd h2
  have HLE := hd hle
  clear hr h hle hl h1 h2
  go_enter Try.func70, Try.ntmps70
  go_wp2_with fail
  have A := Lb.new w 0 0
  have R0 := H.out.keep (below1 w (Obj.cells #[Value.int IntKind.i64 0, Value.int IntKind.u32 0] 40))
  have K0 : Kp (fun b => b = rb) w (w.alloc (Obj.cells #[Value.int IntKind.i64 0, Value.int IntKind.u32 0] 40)) := (Kp.refl _ _).alloc _
  have HG : Hid (rb < w.heap.size) := hd H.out.lt
  generalize hg : w.heap.size = g at *
  have HS := hd hg
  clear hg
  generalize w.alloc (Obj.cells #[Value.int IntKind.i64 0, Value.int IntKind.u32 0] 40) = w1 at *
  refine (RU_is R0 n1 H1.out).mono ?_
  rintro e w2 ⟨rfl, hr2, hk2⟩
  have R2 := hd hr2
  have K2 := hd (K0.trans hk2)
  have A2 := hd (hk2.old A (by have := HG.out; omega))
  clear A R0 K0 hr2 hk2
  go_wp2_with fail
  refine (RU_is R2.out n2 H2.out).mono ?_
  rintro e w3 ⟨rfl, hr3, hk3⟩
  have R3 := hd hr3
  have K3 := hd (K2.out.trans hk3)
  have A3 := hd (hk3.old A2.out (by have := HG.out; omega))
  clear A2 R2 K2 hr3 hk3
  have fin : ∀ (l' : List Int) (e' : Int) (w4 : World) (x p : Int), Rd RB w4 rb l' e' → Kp (fun b => b = rb) w w4 → Lb w4 g 0 0 → r = (x, p, l', e') →
      Lb ((w4.setCell ⟨g, 0, none⟩ (.int .i64 x)).setCell ⟨g, 1, none⟩ (.int .u32 p)) g x p ∧ LabEnd RB w rb r (.returned (.agg #[.int .i64 x, .int .u32 p])) ((w4.setCell ⟨g, 0, none⟩ (.int .i64 x)).setCell ⟨g, 1, none⟩ (.int .u32 p)) := by
    intro l' e' w4 x p hr hk ha he
    subst he
    have h0 := HG.out
    have hs := HS.out
    have hle := HLE.out
    exact ⟨(ha.set0 _).set1 _, rfl, ((hr.setO g 0 _ (by omega) (by omega) hle).setO g 1 _ (by omega) (by omega) hle), (hk.setCell ⟨g, 0, none⟩ _ (fun h => absurd h (by show ¬ g < w.heap.size; omega))).setCell ⟨g, 1, none⟩ _ (fun h => absurd h (by show ¬ g < w.heap.size; omega))⟩
  have FIN := hd fin
  clear fin
  by_cases he : e2 = 0
  · subst he
    by_cases hbig : 7 < n1 ∨ 4294967295 < n2
    · have HR2 : Hid (r = (0, 0, [], 4)) := hd (by rw [← HR.out]; unfold tkLab; rw [if_neg (by simp), if_pos hbig])
      clear HR HZ
      rcases hbig with hbig | hbig
      · go_wp2_with fail
        refine (Fail_new R3.out (by decide)).mono ?_
        rintro e w4 ⟨rfl, rfl⟩
        have R4 := hd (R3.out.fail 4)
        have K4 := hd (K3.out.trans (kp_fail w3 rb (.int .i64 4) (.slice none 0 0)))
        have A4 := hd ((kp_fail w3 rb (.int .i64 4) (.slice none 0 0)).old A3.out (by have := HG.out; omega))
        clear A3 R3 K3
        generalize (w3.setCell ⟨rb, 2, none⟩ (.int .i64 4)).setCell ⟨rb, 1, none⟩ (.slice none 0 0) = w4 at *
        go_wp2_with fail
        refine (Err_any R4.out).mono ?_
        rintro e w5 ⟨rfl, rfl⟩
        have a0 := A4.out.c0
        have a1 := A4.out.c1
        have f0 := A4.out.fz 0
        have f1 := A4.out.fz 1
        go_wp2_with fail
        have hf := FIN.out _ _ _ 0 0 R4.out K4.out A4.out HR2.out
        exact bodyPost_ret (res_lab rfl _ _ g _ _ _ _ rfl hf.1) rfl hf.2
      · by_cases hb1 : 7 < n1
        · go_wp2_with fail
          refine (Fail_new R3.out (by decide)).mono ?_
          rintro e w4 ⟨rfl, rfl⟩
          have R4 := hd (R3.out.fail 4)
          have K4 := hd (K3.out.trans (kp_fail w3 rb (.int .i64 4) (.slice none 0 0)))
          have A4 := hd ((kp_fail w3 rb (.int .i64 4) (.slice none 0 0)).old A3.out (by have := HG.out; omega))
          clear A3 R3 K3
          generalize (w3.setCell ⟨rb, 2, none⟩ (.int .i64 4)).setCell ⟨rb, 1, none⟩ (.slice none 0 0) = w4 at *
          go_wp2_with fail
          refine (Err_any R4.out).mono ?_
          rintro e w5 ⟨rfl, rfl⟩
          have a0 := A4.out.c0
          have a1 := A4.out.c1
          have f0 := A4.out.fz 0
          have f1 := A4.out.fz 1
          go_wp2_with fail
          have hf := FIN.out _ _ _ 0 0 R4.out K4.out A4.out HR2.out
          exact bodyPost_ret (res_lab rfl _ _ g _ _ _ _ rfl hf.1) rfl hf.2
        · have hb1' : n1 ≤ 7 := by omega
          go_wp2_with fail
          refine (Fail_new R3.out (by decide)).mono ?_
          rintro e w4 ⟨rfl, rfl⟩
          have R4 := hd (R3.out.fail 4)
          have K4 := hd (K3.out.trans (kp_fail w3 rb (.int .i64 4) (.slice none 0 0)))
          have A4 := hd ((kp_fail w3 rb (.int .i64 4) (.slice none 0 0)).old A3.out (by have := HG.out; omega))
          clear A3 R3 K3
          generalize (w3.setCell ⟨rb, 2, none⟩ (.int .i64 4)).setCell ⟨rb, 1, none⟩ (.slice none 0 0) = w4 at *
          go_wp2_with fail
          refine (Err_any R4.out).mono ?_
          rintro e w5 ⟨rfl, rfl⟩
          have a0 := A4.out.c0
          have a1 := A4.out.c1
          have f0 := A4.out.fz 0
          have f1 := A4.out.fz 1
          go_wp2_with fail
          have hf := FIN.out _ _ _ 0 0 R4.out K4.out A4.out HR2.out
          exact bodyPost_ret (res_lab rfl _ _ g _ _ _ _ rfl hf.1) rfl hf.2
    · have HR2 : Hid (r = (n1, n2, l2, 0)) := hd (by rw [← HR.out]; unfold tkLab; rw [if_neg (by simp), if_neg hbig])
      have hb1 : n1 ≤ 7 := by omega
      have hb2 : n2 ≤ 4294967295 := by omega
      have hb0 : 0 ≤ n2 := HB.out.1
      have hw : IntKind.u32.wrap n2 = n2 := by
        show n2 % 4294967296 = n2
        omega
      clear HR HZ hbig
      go_wp2_with fail
      refine (Err_any R3.out).mono ?_
      rintro e w5 ⟨rfl, rfl⟩
      have a0 := A3.out.c0
      have a1 := A3.out.c1
      have f0 := A3.out.fz 0
      have f1 := A3.out.fz 1
      go_wp2_with fail
      have hf := FIN.out _ _ _ n1 n2 R3.out K3.out A3.out HR2.out
      exact bodyPost_ret (res_lab rfl _ _ g _ _ _ _ rfl hf.1) rfl hf.2
  · have HR2 : Hid (r = (0, 0, l2, e2)) := hd (by rw [← HR.out]; unfold tkLab; rw [if_pos he])
    have hz : n2 = 0 := HZ.out he
    have hne : (e2 != 0) = true := by rw [bne_iff_ne]; exact he
    subst hz
    clear HR HZ HB
    by_cases hb1 : 7 < n1
    · go_wp2_with fail
      refine (Fail_old R3.out he (by decide)).mono ?_
      rintro e w4 ⟨rfl, rfl⟩
      go_wp2_with fail
      refine (Err_any R3.out).mono ?_
      rintro e w5 ⟨rfl, rfl⟩
      have a0 := A3.out.c0
      have a1 := A3.out.c1
      have f0 := A3.out.fz 0
      have f1 := A3.out.fz 1
      go_wp2_with fail
      have hf := FIN.out _ _ _ 0 0 R3.out K3.out A3.out HR2.out
      exact bodyPost_ret (res_lab rfl _ _ g _ _ _ _ rfl hf.1) rfl hf.2
    · have hb1' : n1 ≤ 7 := by omega
      go_wp2_with fail
      refine (Err_any R3.out).mono ?_
      rintro e w5 ⟨rfl, rfl⟩
      have a0 := A3.out.c0
      have a1 := A3.out.c1
      have f0 := A3.out.fz 0
      have f1 := A3.out.fz 1
      go_wp2_with fail
      have hf := FIN.out _ _ _ 0 0 R3.out K3.out A3.out HR2.out
      exact bodyPost_ret (res_lab rfl _ _ g _ _ _ _ rfl hf.1) rfl hf.2
end

section
variable {XB : Nat}

def LabX (XB : Nat) (w : World) (xb : Nat) (l : List Int) (r : Int × Int × List Int × Int) (e : Ending) (w' : World) : Prop :=
  e = .returned (.agg #[.int .i64 r.1, .int .u32 r.2.1]) ∧ Rx XB w' xb l r.2.2.2 ∧ Kp (fun b => b = xb) w w'

theorem Rx.setO {w : World} {xb : Nat} {l : List Int} {e : Int} (h : Rx XB w xb l e) (g o : Nat) (v : Value) (h2 : g < XB ∨ xb < g) (hle : XB ≤ xb) : Rx XB (w.setCell ⟨g, o, none⟩ v) xb l e :=
  h.keepO (rb := g) ((Kp.refl (fun b => b = g) w).setCell ⟨g, o, none⟩ v (fun _ => rfl)) h2 hle

theorem xerr_zero {most n : Int} {l l' : List Int} {e e' : Int} (h : xStep most l e = (n, l', e')) (he : e' ≠ 0) : n = 0 := by
  unfold xStep at h
  split at h
  · injection h with h _; exact h.symm
  · split at h
    · injection h with h _; exact h.symm
    · injection h with _ h
      injection h with _ h
      exact absurd h.symm he

end

section
/-- Bytes and an error. -/
def BEnd (w : World) (l : List Int) (er : Int) (e : Ending) (w' : World) : Prop :=
  ∃ a n cap, e = .returned (.tuple #[.slice a n cap, .int .i64 er]) ∧ l.length = n ∧ Ow w.heap.size w' (.slice a n cap) l ∧ Below w.heap.size w w'

/-- The bytes of a label; none, if it may not be. -/
def lbytes (x p : Int) : List Int := if okL x then Num.enc x ++ Num.enc p else []
def lerr (x : Int) : Int := if okL x then 0 else 9

theorem bytes_any (x p : Int) (w : World) (hp : 0 ≤ p ∧ p ≤ 4294967295) : Calls Try.prog 63 #[.agg #[.int .i64 x, .int .u32 p]] w fun e w' => BEnd w (lbytes x p) (lerr x) e w' := by
  unfold lbytes lerr
  cases ho : okL x
  · refine (bytes_bad x p w ho).mono ?_
    rintro e w' ⟨rfl, hk⟩
    exact ⟨none, 0, 0, rfl, rfl, ⟨Byt.nil, Nat.zero_le _, World.ownsRow_nil w' _ 5 1⟩, hk⟩
  · refine (bytes_ok x p w ho hp).mono ?_
    rintro e w' ⟨a, cap, rfl, h, hk⟩
    exact ⟨a, _, cap, rfl, rfl, h, hk⟩
/-- Both readers' steps tell the same. -/
theorem ux (most : Int) (l : List Int) : ∃ n1 l1 e1 n2 l2 e2 m1 m2, uStep most l 0 = (n1, l1, e1) ∧ uStep most l1 e1 = (n2, l2, e2) ∧ xStep most l 0 = (n1, m1, e1) ∧ xStep most m1 e1 = (n2, m2, e2) ∧ (e2 = 0 → m2 = l2) := by
  obtain ⟨n, er, k, hn⟩ : ∃ n er k, Num.num most l = (n, er, k) := ⟨_, _, _, rfl⟩
  by_cases he : er = 0
  · subst he
    obtain ⟨n2, er2, k2, hn2⟩ : ∃ n' er' k', Num.num most (l.drop k) = (n', er', k') := ⟨_, _, _, rfl⟩
    have u1 : uStep most l 0 = (n, l.drop k, 0) := by unfold uStep; rw [if_neg (by simp), hn, if_neg (by simp)]
    have x1 : xStep most l 0 = (n, l.drop k, 0) := xStep_ok hn
    by_cases he2 : er2 = 0
    · subst he2
      exact ⟨_, _, _, n2, (l.drop k).drop k2, 0, _, _, u1, by unfold uStep; rw [if_neg (by simp), hn2, if_neg (by simp)], x1, xStep_ok hn2, fun _ => rfl⟩
    · exact ⟨_, _, _, 0, [], er2, _, _, u1, by unfold uStep; rw [if_neg (by simp), hn2, if_pos he2], x1, xStep_bad hn2 he2, fun h => absurd h he2⟩
  · have u1 : uStep most l 0 = (0, [], er) := by unfold uStep; rw [if_neg (by simp), hn, if_pos he]
    have x1 : xStep most l 0 = (0, l, er) := xStep_bad hn he
    exact ⟨_, _, _, 0, [], er, _, _, u1, by unfold uStep; rw [if_pos he], x1, xStep_err he, fun h => absurd h he⟩

theorem ux_bd {most : Int} {l l1 l2 : List Int} {n1 e1 n2 e2 : Int} (hm : 0 ≤ most) (hl : Byt l) (h1 : uStep most l 0 = (n1, l1, e1)) (h2 : uStep most l1 e1 = (n2, l2, e2)) : 0 ≤ n2 ∧ n2 ≤ most ∧ 0 ≤ n1 := by
  have hb1 := uStep_bd most l 0 hm hl
  have hl1 : Byt l1 := by
    unfold uStep at h1
    split at h1
    · injection h1 with _ h; injection h with h _; rw [← h]; exact hl
    · split at h1
      · injection h1 with _ h; injection h with h _; rw [← h]; exact Byt.nil
      · injection h1 with _ h; injection h with h _; rw [← h]; exact hl.drop _
  have hb2 := uStep_bd most l1 e1 hm hl1
  rw [h1] at hb1
  rw [h2] at hb2
  exact ⟨hb2.1, hb2.2, hb1.1⟩

/-- How many bytes are left, by what is told of them. -/
def leftOf (l : List Int) (e : Int) : Int := if e = 0 then (l.length : Int) else 0
theorem Left_any {RB : Nat} {w : World} {rb : Nat} {l : List Int} {e0 : Int} (h : Rd RB w rb l e0) : Calls Try.prog 30 #[.pointer (some ⟨rb, 0, none⟩)] w fun e w' => VEnd w (.int .i64 (leftOf l e0)) e w' := by
  unfold leftOf
  by_cases he : e0 = 0
  · subst he
    rw [if_pos rfl]
    refine (Left_ok h).mono ?_
    rintro e w' ⟨rfl, rfl⟩
    exact VEnd.mk (Below.refl _ _)
  · rw [if_neg he]
    refine (Left_bad h he).mono ?_
    rintro e w' ⟨rfl, rfl⟩
    exact VEnd.mk (Below.refl _ _)
theorem Err_v {RB : Nat} {w : World} {rb : Nat} {l : List Int} {e0 : Int} (h : Rd RB w rb l e0) : Calls Try.prog 29 #[.pointer (some ⟨rb, 0, none⟩)] w fun e w' => VEnd w (.int .i64 e0) e w' := by
  refine (Err_any h).mono ?_
  rintro e w' ⟨rfl, rfl⟩
  exact VEnd.mk (Below.refl _ _)
theorem eq_v {A B : Nat → Prop} {w : World} {va vb : Value} {l : List Int} (ha : Bs A w va l) (hb : Bs B w vb l) : Calls Try.prog 8 #[va, vb] w fun e w' => VEnd w (.bool true) e w' := by
  refine (eq_same ha hb).mono ?_
  rintro e w' ⟨rfl, m, rfl⟩
  exact VEnd.mk (below_drewN (Below.refl _ _) m)
/-- What is left is the same of both readers, as they tell it. -/
theorem left_same (n1 n2 e2 : Int) (l2 m2 : List Int) (h : e2 = 0 → m2 = l2) : leftOf m2 (tkLab n1 n2 l2 e2).2.2.2 = leftOf (tkLab n1 n2 l2 e2).2.2.1 (tkLab n1 n2 l2 e2).2.2.2 := by
  by_cases he : e2 = 0
  · have e1 : tkLab n1 n2 l2 e2 = if 7 < n1 ∨ 4294967295 < n2 then (0, 0, [], 4) else (n1, n2, l2, 0) := by unfold tkLab; rw [if_neg (by simpa using he)]
    rw [e1]
    by_cases hb : 7 < n1 ∨ 4294967295 < n2
    · rw [if_pos hb]
      rfl
    · rw [if_neg hb, h he]
  · have e1 : tkLab n1 n2 l2 e2 = (0, 0, l2, e2) := by unfold tkLab; rw [if_pos he]
    rw [e1]
    unfold leftOf
    simp only
    rw [if_neg he, if_neg he]
end

section
theorem u_enc (n : Int) (r : List Int) (h0 : 0 ≤ n) (h1 : n ≤ 9007199254740991) : uStep 9007199254740991 (Num.enc n ++ r) 0 = (n, r, 0) := by
  have h := Num.num_enc 9007199254740991 n r h0 (by omega) h1
  unfold uStep
  rw [if_neg (by simp), h, if_neg (by simp)]
  simp only
  rw [← Num.enc_length n, List.drop_left]

theorem u_again {l l' : List Int} {n e' : Int} (hl : Byt l) (h : uStep 9007199254740991 l 0 = (n, l', e')) (he : e' = 0) : ∃ k, k ≤ l.length ∧ Num.enc n = l.take k ∧ l' = l.drop k := by
  subst he
  obtain ⟨m, er, k, hn⟩ : ∃ n er k, Num.num 9007199254740991 l = (n, er, k) := ⟨_, _, _, rfl⟩
  unfold uStep at h
  rw [if_neg (by simp), hn] at h
  by_cases h2 : er = 0
  · subst h2
    rw [if_neg (by simp)] at h
    simp only [Prod.mk.injEq] at h
    obtain ⟨rfl, rfl, _⟩ := h
    have ha := Num.num_again 9007199254740991 m l k (fun i => hl.get i) hn
    exact ⟨k, ha.1, ha.2, rfl⟩
  · rw [if_pos h2] at h
    simp only [Prod.mk.injEq] at h
    exact absurd h.2.2 h2

theorem tk_again {l l1 l2 : List Int} {n1 e1 n2 e2 X P : Int} {lr : List Int} (hl : Byt l) (h1 : uStep 9007199254740991 l 0 = (n1, l1, e1)) (h2 : uStep 9007199254740991 l1 e1 = (n2, l2, e2)) (ht : tkLab n1 n2 l2 e2 = (X, P, lr, 0)) :
    okL X = true ∧ (0 ≤ P ∧ P ≤ 4294967295) ∧ ∃ k, k ≤ l.length ∧ Num.enc X ++ Num.enc P = l.take k ∧ lr = l.drop k := by
  have hbd := ux_bd (by omega) hl h1 h2
  unfold tkLab at ht
  by_cases he : e2 = 0
  · rw [if_neg (by simpa using he)] at ht
    by_cases hb : 7 < n1 ∨ 4294967295 < n2
    · rw [if_pos hb] at ht
      simp only [Prod.mk.injEq] at ht
      exact absurd ht.2.2.2 (by decide)
    · rw [if_neg hb] at ht
      simp only [Prod.mk.injEq] at ht
      obtain ⟨rfl, rfl, rfl, _⟩ := ht
      have he1 : e1 = 0 := by
        by_cases h : e1 = 0
        · exact h
        · unfold uStep at h2
          rw [if_pos h] at h2
          simp only [Prod.mk.injEq] at h2
          rw [h2.2.2]
          exact he
      subst he1
      obtain ⟨k1, hk1, ek1, el1⟩ := u_again hl h1 rfl
      have hl1 : Byt l1 := by rw [el1]; exact hl.drop _
      obtain ⟨k2, hk2, ek2, el2⟩ := u_again hl1 h2 he
      refine ⟨?_, ⟨hbd.1, by omega⟩, k1 + k2, ?_, ?_, ?_⟩
      · unfold okL
        rw [decide_eq_true hbd.2.2, decide_eq_true (show n1 ≤ 7 by omega)]
        rfl
      · rw [el1, List.length_drop] at hk2
        omega
      · rw [ek1, ek2, el1, List.take_add]
      · rw [el2, el1, List.drop_drop]
  · rw [if_pos he] at ht
    simp only [Prod.mk.injEq] at ht
    exact absurd ht.2.2.2 he

/-- The front of a row. -/
theorem Bx.front {N : Nat} {w : World} {a : Option Addr} {n c k : Nat} {l : List Int} (h : Bx N w (.slice a n c) l) (hn : l.length = n) (hk : k ≤ n) : Bx N w (.slice a k c) (l.take k) := by
  have hlen : (l.take k).length = k := by rw [List.length_take]; omega
  rcases h with ⟨h1, h2, h3⟩ | ⟨h0, x, cap, hv⟩
  · rcases h3 with ⟨hv, h0⟩ | ⟨b, off, cap, hv, hc, hA, hlt, hcell⟩
    · injection hv with e1 e2 e3
      subst e1 e2 e3
      obtain rfl : k = 0 := by omega
      exact Or.inl ⟨h1.take _, by simp, Or.inl ⟨rfl, by simp⟩⟩
    · injection hv with e1 e2 e3
      subst e1 e3
      refine Or.inl ⟨h1.take _, by omega, Or.inr ⟨b, off, c, by rw [hlen], by omega, hA, hlt, fun i hi => ?_⟩⟩
      rw [hlen] at hi
      rw [hcell i (by omega)]
      simp [hi]
  · injection hv with e1 e2 e3
    subst e1
    subst h0
    obtain rfl : k = 0 := by simp at hn; omega
    exact Or.inr ⟨rfl, x, c, rfl⟩

theorem eq_vx {N : Nat} {A : Nat → Prop} {w : World} {va vb : Value} {l : List Int} (ha : Bs A w va l) (hb : Bx N w vb l) : Calls Try.prog 8 #[va, vb] w fun e w' => VEnd w (.bool true) e w' := by
  refine (eq_bx ha hb).mono ?_
  rintro e w' ⟨rfl, m, rfl⟩
  rw [decide_eq_true rfl]
  exact VEnd.mk (below_drewN (Below.refl _ _) m)

/-- One byte in a new row. -/
theorem one9 (w : World) (x : Int) (h0 : 0 ≤ x) (h1 : x ≤ 255) : Bx (w.heap.size + 1) (w.alloc (.cells #[.int .u8 x] 5)) (.slice (some ⟨w.heap.size, 0, none⟩) 1 1) [x] := by
  have hb : Byt [x] := fun y hy => by simp at hy; omega
  exact Or.inl (Bs.fresh0 w [x] 5 1 hb (by simp) (Nat.le_refl _) _ (Nat.lt_succ_self _))
end

section
theorem unfold_bd (n : Int) (h0 : 0 ≤ n) (h1 : n ≤ 18014398509481982) : -9007199254740991 ≤ unfoldI n ∧ unfoldI n ≤ 9007199254740991 := by
  unfold unfoldI; split <;> omega

theorem bytes_str (bs : List Int) (hb : Byt bs) : bytesOf (strOfNums bs) = bs := by
  unfold bytesOf
  rw [strOfNums_data, List.map_map]
  have h : ∀ x ∈ bs, ((fun b : UInt8 => (b.toNat : Int)) ∘ fun n : Int => UInt8.ofNat n.toNat) x = x := by
    intro x hx
    have := hb x hx
    simp only [Function.comp]
    rw [UInt8.toNat_ofNat']
    omega
  rw [List.map_congr_left h, List.map_id'']
  intro x; rfl

theorem str_bytes (t : ByteArray) : strOfNums (bytesOf t) = t := by
  apply ByteArray.ext
  apply Array.toList_inj.1
  rw [strOfNums_data]
  unfold bytesOf
  rw [List.map_map]
  have h : ∀ x ∈ t.data.toList, ((fun n : Int => UInt8.ofNat n.toNat) ∘ fun b : UInt8 => (b.toNat : Int)) x = x := by
    intro x _
    simp
  rw [List.map_congr_left h, List.map_id'']
  intro x; rfl
end

section
/-- A value: Kind, N, B. -/
abbrev ValD := Int × Int × ByteArray
def valZ : ValD := (0, 0, ⟨#[]⟩)
/-- May it be? -/
def okV (v : ValD) : Bool :=
  (v.1 == 1 && decide (-9007199254740991 ≤ v.2.1) && decide (v.2.1 ≤ 9007199254740991) && v.2.2.size == 0)
  || (v.1 == 2 && v.2.1 == 0 && decide (v.2.2.size ≤ 64))
  || (v.1 == 3 && (v.2.1 == 0 || v.2.1 == 1) && v.2.2.size == 0)
theorem size0 {s : ByteArray} (h : s.size = 0) : s = ⟨#[]⟩ := by
  apply ByteArray.ext
  exact Array.eq_empty_of_size_eq_zero h
theorem okV_cases {v : ValD} (h : okV v = true) :
    (∃ n : Int, v = (1, n, ⟨#[]⟩) ∧ -9007199254740991 ≤ n ∧ n ≤ 9007199254740991) ∨ (∃ s : ByteArray, v = (2, 0, s) ∧ s.size ≤ 64) ∨ v = (3, 0, ⟨#[]⟩) ∨ v = (3, 1, ⟨#[]⟩) := by
  obtain ⟨k, n, s⟩ := v
  unfold okV at h
  simp only [Bool.or_eq_true, Bool.and_eq_true, beq_iff_eq, decide_eq_true_eq] at h
  rcases h with (⟨⟨⟨h1, h2⟩, h3⟩, h4⟩ | ⟨⟨h1, h2⟩, h3⟩) | ⟨⟨h1, h2⟩, h3⟩
  · subst h1; rw [size0 h4]; exact Or.inl ⟨n, rfl, h2, h3⟩
  · subst h1 h2; exact Or.inr (Or.inl ⟨s, rfl, h3⟩)
  · subst h1; rw [size0 h3]
    rcases h2 with rfl | rfl
    · exact Or.inr (Or.inr (Or.inl rfl))
    · exact Or.inr (Or.inr (Or.inr rfl))
theorem okV_int {n : Int} (h0 : -9007199254740991 ≤ n) (h1 : n ≤ 9007199254740991) : okV (1, n, ⟨#[]⟩) = true := by
  unfold okV
  simp [h0, h1]
  rfl
theorem okV_bytes {s : ByteArray} (h : s.size ≤ 64) : okV (2, 0, s) = true := by
  unfold okV
  simp [h]

/-- Its bytes. -/
def valB (v : ValD) : List Int :=
  Num.enc v.1 ++ (if v.1 = 2 then Num.enc v.2.2.size ++ bytesOf v.2.2 else if v.1 = 1 then Num.enc (foldI v.2.1) else Num.enc v.2.1)

theorem valB1 (n : Int) (s : ByteArray) : valB (1, n, s) = Num.enc 1 ++ Num.enc (foldI n) := by unfold valB; simp
theorem valB2 (n : Int) (s : ByteArray) : valB (2, n, s) = Num.enc 2 ++ (Num.enc s.size ++ bytesOf s) := by unfold valB; simp
theorem valB3 (n : Int) (s : ByteArray) : valB (3, n, s) = Num.enc 3 ++ Num.enc n := by unfold valB; simp
/-- What is read behind the Kind: N, B, what is left, the error. -/
def part (k : Int) (l : List Int) (e : Int) : Int × ByteArray × List Int × Int :=
  if k = 1 then (unfoldI (uStep 18014398509481982 l e).1, ⟨#[]⟩, (uStep 18014398509481982 l e).2.1, (uStep 18014398509481982 l e).2.2)
  else if k = 2 then (0, strOfNums (bStep (textR 64 l) l e).1, (bStep (textR 64 l) l e).2.1, (bStep (textR 64 l) l e).2.2)
  else if k = 3 then ((uStep 9007199254740991 l e).1, ⟨#[]⟩, (uStep 9007199254740991 l e).2.1, (uStep 9007199254740991 l e).2.2)
  else (0, ⟨#[]⟩, l, e)
/-- What Take tells: the value, what is left, the reader's error. -/
def takeQ (k : Int) (q : Int × ByteArray × List Int × Int) : ValD × List Int × Int :=
  if q.2.2.2 ≠ 0 then (valZ, q.2.2.1, q.2.2.2) else if okV (k, q.1, q.2.1) then ((k, q.1, q.2.1), q.2.2.1, 0) else (valZ, [], 4)
def takeV (l : List Int) (e : Int) : ValD × List Int × Int :=
  takeQ (uStep 9007199254740991 l e).1 (part (uStep 9007199254740991 l e).1 (uStep 9007199254740991 l e).2.1 (uStep 9007199254740991 l e).2.2)

theorem uS_enc (n : Int) (r : List Int) (h0 : 0 ≤ n) (h1 : n ≤ 18014398509481982) : uStep 18014398509481982 (Num.enc n ++ r) 0 = (n, r, 0) := by
  have h := Num.num_enc 18014398509481982 n r h0 (by omega) h1
  unfold uStep
  rw [if_neg (by simp), h, if_neg (by simp)]
  simp only
  rw [← Num.enc_length n, List.drop_left]
-- A text that was written is read as it was.
set_option maxRecDepth 100000 in
theorem t_enc (most : Int) (bs r : List Int) (h : (bs.length : Int) ≤ most) (hm : most ≤ 9007199254740991) (l : List Int) (hl : l = Num.enc bs.length ++ (bs ++ r)) : bStep (textR most l) l 0 = (bs, r, 0) := by
  subst hl
  have hn : Num.num 9007199254740991 (Num.enc bs.length ++ (bs ++ r)) = ((bs.length : Int), 0, Num.sz bs.length) := Num.num_enc _ _ _ (by omega) (by omega) (by omega)
  have hd : (Num.enc (bs.length : Int) ++ (bs ++ r)).drop (Num.sz bs.length) = bs ++ r := by rw [← Num.enc_length, List.drop_left]
  unfold textR
  rw [hn, if_neg (by simp)]
  simp only
  rw [if_neg (by omega), hd]
  unfold rawR
  rw [if_neg (by omega), if_neg (by rw [List.length_append]; omega)]
  unfold bStep
  simp
theorem takeV_back (v : ValD) (h : okV v = true) (r : List Int) : takeV (valB v ++ r) 0 = (v, r, 0) := by
  rcases okV_cases h with ⟨n, rfl, h0, h1⟩ | ⟨s, rfl, h0⟩ | rfl | rfl
  · have hb := foldI_bd n h0 h1
    have e : valB (1, n, ⟨#[]⟩) ++ r = Num.enc 1 ++ (Num.enc (foldI n) ++ r) := by rw [valB1, List.append_assoc]
    unfold takeV
    rw [e, u_enc 1 _ (by decide) (by decide)]
    simp only
    unfold part
    rw [if_pos rfl, uS_enc _ _ hb.1 hb.2]
    simp only
    unfold takeQ
    rw [if_neg (by simp)]
    simp only [unfold_fold]
    rw [if_pos (okV_int h0 h1)]
  · have e : valB (2, 0, s) ++ r = Num.enc 2 ++ (Num.enc (bytesOf s).length ++ (bytesOf s ++ r)) := by rw [valB2, List.append_assoc, List.append_assoc, bytesOf_length]
    unfold takeV
    rw [e, u_enc 2 _ (by decide) (by decide)]
    simp only
    unfold part
    rw [if_neg (by decide), if_pos rfl, t_enc 64 (bytesOf s) r (by rw [bytesOf_length]; omega) (by decide) _ rfl]
    simp only [str_bytes]
    unfold takeQ
    rw [if_neg (by simp)]
    simp only
    rw [if_pos (okV_bytes h0)]
  · have e : valB (3, 0, ⟨#[]⟩) ++ r = Num.enc 3 ++ (Num.enc 0 ++ r) := by rw [valB3, List.append_assoc]
    unfold takeV
    rw [e, u_enc 3 _ (by decide) (by decide)]
    simp only
    unfold part
    rw [if_neg (by decide), if_neg (by decide), if_pos rfl, u_enc 0 _ (by decide) (by decide)]
    rfl
  · have e : valB (3, 1, ⟨#[]⟩) ++ r = Num.enc 3 ++ (Num.enc 1 ++ r) := by rw [valB3, List.append_assoc]
    unfold takeV
    rw [e, u_enc 3 _ (by decide) (by decide)]
    simp only
    unfold part
    rw [if_neg (by decide), if_neg (by decide), if_pos rfl, u_enc 1 _ (by decide) (by decide)]
    rfl

/-- A number that was read was written so (S likewise). -/
theorem u_was {most : Int} {l l' : List Int} {n : Int} (hl : Byt l) (h : uStep most l 0 = (n, l', 0)) : l = Num.enc n ++ l' := by
  obtain ⟨m, er, k, hn⟩ : ∃ n er k, Num.num most l = (n, er, k) := ⟨_, _, _, rfl⟩
  unfold uStep at h
  rw [if_neg (by simp), hn] at h
  by_cases h2 : er = 0
  · subst h2
    rw [if_neg (by simp)] at h
    simp only [Prod.mk.injEq] at h
    obtain ⟨rfl, rfl, _⟩ := h
    have ha := Num.num_again most m l k (fun i => hl.get i) hn
    rw [ha.2, List.take_append_drop]
  · rw [if_pos h2] at h
    simp only [Prod.mk.injEq] at h
    exact absurd h.2.2 h2
/-- With an error behind, none was there ahead. -/
theorem u_err {most : Int} {l l' : List Int} {n e : Int} (h : uStep most l e = (n, l', 0)) : e = 0 := by
  unfold uStep at h
  by_cases he : e = 0
  · exact he
  · rw [if_pos he] at h
    simp only [Prod.mk.injEq] at h
    exact absurd h.2.2 he
theorem u_byt {most : Int} {l l' : List Int} {n e e' : Int} (hl : Byt l) (h : uStep most l e = (n, l', e')) : Byt l' := by
  unfold uStep at h
  split at h
  · injection h with _ h; injection h with h _; rw [← h]; exact hl
  · split at h
    · injection h with _ h; injection h with h _; rw [← h]; exact Byt.nil
    · injection h with _ h; injection h with h _; rw [← h]; exact hl.drop _
theorem u_rng {most : Int} {l l' : List Int} {n e e' : Int} (hm : 0 ≤ most) (hl : Byt l) (h : uStep most l e = (n, l', e')) : 0 ≤ n := by
  unfold uStep at h
  split at h
  · injection h with h _; rw [← h]; exact Int.le_refl _
  · split at h
    · injection h with h _; rw [← h]; exact Int.le_refl _
    · injection h with h _
      rw [← h]
      unfold Num.num
      repeat' split
      all_goals first | exact Int.le_refl _ | skip
      have ht := Num.told_bd (l.getD 0 0)
      exact (Num.V_bd l _ (fun i => hl.get i) ht.1 (by omega)).2.1
theorem t_was {most : Int} {l l' bs : List Int} (hl : Byt l) (h : bStep (textR most l) l 0 = (bs, l', 0)) : l = Num.enc bs.length ++ (bs ++ l') ∧ (bs.length : Int) ≤ most := by
  obtain ⟨n, er, k, hn⟩ : ∃ n er k, Num.num 9007199254740991 l = (n, er, k) := ⟨_, _, _, rfl⟩
  unfold textR at h
  rw [hn] at h
  simp only at h
  by_cases h2 : er = 0
  · subst h2
    rw [if_neg (by simp)] at h
    by_cases h3 : most < n
    · rw [if_pos h3] at h
      unfold bStep at h
      simp at h
    · rw [if_neg h3] at h
      have ha := Num.num_again 9007199254740991 n l k (fun i => hl.get i) hn
      unfold rawR at h
      by_cases h4 : n < 0
      · rw [if_pos h4] at h
        unfold bStep at h
        simp at h
      · rw [if_neg h4] at h
        by_cases h5 : ((l.drop k).length : Int) < n
        · rw [if_pos h5] at h
          unfold bStep at h
          simp at h
        · rw [if_neg h5] at h
          unfold bStep at h
          simp only [ne_eq, not_true_eq_false, if_false, Prod.mk.injEq, and_true] at h
          obtain ⟨rfl, rfl⟩ := h
          have hlen : ((List.take n.toNat (l.drop k)).length : Int) = n := by rw [List.length_take, Nat.min_eq_left (by omega)]; omega
          rw [hlen, List.take_append_drop, ha.2, List.take_append_drop]
          exact ⟨rfl, by omega⟩
  · rw [if_pos h2] at h
    unfold bStep at h
    rw [if_neg (by simp), if_pos h2] at h
    simp only [Prod.mk.injEq] at h
    exact absurd h.2.2 h2
theorem t_err {most : Int} {l l' bs : List Int} {e : Int} (h : bStep (textR most l) l e = (bs, l', 0)) : e = 0 := by
  unfold bStep at h
  by_cases he : e = 0
  · exact he
  · rw [if_pos he] at h
    simp only [Prod.mk.injEq] at h
    exact absurd h.2.2 he
theorem t_byt {most : Int} {l l' bs : List Int} {e e' : Int} (hl : Byt l) (h : bStep (textR most l) l e = (bs, l', e')) : Byt l' ∧ Byt bs := by
  by_cases he : e = 0
  · subst he
    by_cases he' : e' = 0
    · subst he'
      have h1 := (t_was hl h).1
      refine ⟨fun x hx => hl x ?_, fun x hx => hl x ?_⟩
      · rw [h1]; simp [hx]
      · rw [h1]; simp [hx]
    · unfold bStep at h
      rw [if_neg (by simp)] at h
      split at h
      · simp only [Prod.mk.injEq] at h
        obtain ⟨rfl, rfl, _⟩ := h
        exact ⟨Byt.nil, Byt.nil⟩
      · simp only [Prod.mk.injEq] at h
        exact absurd h.2.2.symm he'
  · unfold bStep at h
    rw [if_pos he] at h
    simp only [Prod.mk.injEq] at h
    obtain ⟨rfl, rfl, _⟩ := h
    exact ⟨hl, Byt.nil⟩

/-- What was read may be, and was written so. -/
theorem takeV_was {l l' : List Int} {v : ValD} (hl : Byt l) (h : takeV l 0 = (v, l', 0)) : okV v = true ∧ l = valB v ++ l' := by
  obtain ⟨k, l1, e1, h1⟩ : ∃ k l1 e1, uStep 9007199254740991 l 0 = (k, l1, e1) := ⟨_, _, _, rfl⟩
  have hb1 := u_byt hl h1
  unfold takeV at h
  rw [h1] at h
  simp only at h
  unfold takeQ at h
  split at h
  · simp only [Prod.mk.injEq] at h
    exact absurd h.2.2 (by assumption)
  · rename_i he
    split at h
    · rename_i hok
      simp only [Prod.mk.injEq, and_true] at h
      obtain ⟨rfl, rfl⟩ := h
      refine ⟨hok, ?_⟩
      have he : (part k l1 e1).2.2.2 = 0 := by simpa using he
      obtain ⟨n, s, l2, e2, hp⟩ : ∃ n s l2 e2, part k l1 e1 = (n, s, l2, e2) := ⟨_, _, _, _, rfl⟩
      rw [hp] at hok he ⊢
      simp only at hok he ⊢
      subst he
      unfold part at hp
      split at hp
      · rename_i hk
        subst hk
        obtain ⟨m, l3, e3, h3⟩ : ∃ m l3 e3, uStep 18014398509481982 l1 e1 = (m, l3, e3) := ⟨_, _, _, rfl⟩
        rw [h3] at hp
        simp only [Prod.mk.injEq] at hp
        obtain ⟨rfl, rfl, rfl, rfl⟩ := hp
        have he1 := u_err h3
        subst he1
        have hm := u_rng (by decide) hb1 h3
        rw [valB1, fold_unfold m hm, List.append_assoc, ← u_was hb1 h3]
        exact u_was hl h1
      · split at hp
        · rename_i hk
          subst hk
          obtain ⟨bs, l3, e3, h3⟩ : ∃ bs l3 e3, bStep (textR 64 l1) l1 e1 = (bs, l3, e3) := ⟨_, _, _, rfl⟩
          rw [h3] at hp
          simp only [Prod.mk.injEq] at hp
          obtain ⟨rfl, rfl, rfl, rfl⟩ := hp
          have he1 := t_err h3
          subst he1
          have hw := t_was hb1 h3
          have hbs := (t_byt hb1 h3).2
          rw [valB2, ← bytesOf_length, bytes_str bs hbs, List.append_assoc, List.append_assoc, ← hw.1]
          exact u_was hl h1
        · split at hp
          · rename_i hk
            subst hk
            obtain ⟨m, l3, e3, h3⟩ : ∃ m l3 e3, uStep 9007199254740991 l1 e1 = (m, l3, e3) := ⟨_, _, _, rfl⟩
            rw [h3] at hp
            simp only [Prod.mk.injEq] at hp
            obtain ⟨rfl, rfl, rfl, rfl⟩ := hp
            have he1 := u_err h3
            subst he1
            rw [valB3, List.append_assoc, ← u_was hb1 h3]
            exact u_was hl h1
          · exfalso
            rename_i a b c
            rcases okV_cases hok with ⟨m, h, _⟩ | ⟨m, h, _⟩ | h | h <;> simp only [Prod.mk.injEq] at h <;> omega
    · simp only [Prod.mk.injEq] at h
      exact absurd h.2.2 (by decide)
theorem takeV_err {l l' : List Int} {v : ValD} {e : Int} (h : takeV l e = (v, l', 0)) : e = 0 := by
  by_cases he : e = 0
  · exact he
  · exfalso
    have h1 : uStep 9007199254740991 l e = (0, l, e) := by unfold uStep; rw [if_pos he]
    unfold takeV at h
    rw [h1] at h
    simp only at h
    have h2 : part 0 l e = (0, ⟨#[]⟩, l, e) := by unfold part; rw [if_neg (by decide), if_neg (by decide), if_neg (by decide)]
    rw [h2] at h
    unfold takeQ at h
    rw [if_pos he] at h
    simp only [Prod.mk.injEq] at h
    exact he h.2.2
/-- With an error: no value. -/
theorem takeV_bad {l l' : List Int} {v : ValD} {e e' : Int} (h : takeV l e = (v, l', e')) (he : e' ≠ 0) : v = valZ := by
  unfold takeV takeQ at h
  split at h
  · simp only [Prod.mk.injEq] at h
    exact h.1.symm
  · split at h
    · simp only [Prod.mk.injEq] at h
      exact absurd h.2.2.symm he
    · simp only [Prod.mk.injEq] at h
      exact h.1.symm
theorem takeV_byt {l l' : List Int} {v : ValD} {e e' : Int} (hl : Byt l) (h : takeV l e = (v, l', e')) : Byt l' := by
  obtain ⟨k, l1, e1, h1⟩ : ∃ k l1 e1, uStep 9007199254740991 l e = (k, l1, e1) := ⟨_, _, _, rfl⟩
  have hb1 := u_byt hl h1
  obtain ⟨n, s, l2, e2, hp⟩ : ∃ n s l2 e2, part k l1 e1 = (n, s, l2, e2) := ⟨_, _, _, _, rfl⟩
  have hb2 : Byt l2 := by
    unfold part at hp
    repeat' split at hp
    all_goals simp only [Prod.mk.injEq] at hp
    · rw [← hp.2.2.1]; exact u_byt hb1 (n := (uStep 18014398509481982 l1 e1).1) (e' := (uStep 18014398509481982 l1 e1).2.2) rfl
    · rw [← hp.2.2.1]; exact (t_byt hb1 (bs := (bStep (textR 64 l1) l1 e1).1) (e' := (bStep (textR 64 l1) l1 e1).2.2) rfl).1
    · rw [← hp.2.2.1]; exact u_byt hb1 (n := (uStep 9007199254740991 l1 e1).1) (e' := (uStep 9007199254740991 l1 e1).2.2) rfl
    · rw [← hp.2.2.1]; exact hb1
  unfold takeV at h
  rw [h1] at h
  simp only at h
  rw [hp] at h
  unfold takeQ at h
  repeat' split at h
  all_goals simp only [Prod.mk.injEq] at h
  · rw [← h.2.1]; exact hb2
  · rw [← h.2.1]; exact hb2
  · rw [← h.2.1]; exact Byt.nil
end

section
/-- An attribute: its name, its label, its value. -/
abbrev AttrD := ByteArray × Int × Int × ValD
def okA (a : AttrD) : Bool := isNm a.1 && okL a.2.1 && okV a.2.2.2
/-- May the list be? -/
def okAs (l : List AttrD) : Bool := decide (l.length ≤ 8) && l.all okA && rises (α := AttrD) Prod.fst l
/-- A label's parts are 32 bits. -/
def WfA (a : AttrD) : Prop := 0 ≤ a.2.2.1 ∧ a.2.2.1 ≤ 4294967295
def attrB (a : AttrD) : List Int := Num.enc a.1.size ++ (bytesOf a.1 ++ (Num.enc a.2.1 ++ (Num.enc a.2.2.1 ++ valB a.2.2.2)))
def asB : List AttrD → List Int
  | [] => []
  | a :: t => attrB a ++ asB t
def listB (l : List AttrD) : List Int := Num.enc l.length ++ asB l

/-- What veil.Take tells: level, parts, what is left, the error. -/
def takeL (l : List Int) (e : Int) : Int × Int × List Int × Int :=
  tkLab (uStep 9007199254740991 l e).1 (uStep 9007199254740991 (uStep 9007199254740991 l e).2.1 (uStep 9007199254740991 l e).2.2).1 (uStep 9007199254740991 (uStep 9007199254740991 l e).2.1 (uStep 9007199254740991 l e).2.2).2.1 (uStep 9007199254740991 (uStep 9007199254740991 l e).2.1 (uStep 9007199254740991 l e).2.2).2.2
/-- One attribute. -/
def takeA (l : List Int) (e : Int) : AttrD × List Int × Int :=
  let n := bStep (textR 24 l) l e
  let b := takeL n.2.1 n.2.2
  let v := takeV b.2.2.1 b.2.2.2
  ((strOfNums n.1, b.1, b.2.1, v.1), v.2.1, v.2.2)
/-- So many of them. -/
def takeN : Nat → List Int → Int → List AttrD × List Int × Int
  | 0, l, e => ([], l, e)
  | n + 1, l, e => if e ≠ 0 then ([], l, e) else ((takeA l e).1 :: (takeN n (takeA l e).2.1 (takeA l e).2.2).1, (takeN n (takeA l e).2.1 (takeA l e).2.2).2)
/-- A list. -/
def takeQs (r : List AttrD × List Int × Int) : List AttrD × List Int × Int := if r.2.2 ≠ 0 then ([], r.2) else if okAs r.1 then r else ([], [], 4)
def takeAs (l : List Int) (e : Int) : List AttrD × List Int × Int :=
  let c := uStep 9007199254740991 l e
  if c.2.2 ≠ 0 then ([], c.2) else if 8 < c.1 then ([], [], 4) else takeQs (takeN c.1.toNat c.2.1 0)

theorem takeL_back (x p : Int) (h : okL x = true) (h0 : 0 ≤ p) (h1 : p ≤ 4294967295) (r : List Int) : takeL (Num.enc x ++ (Num.enc p ++ r)) 0 = (x, p, r, 0) := by
  have hx := okL_true h
  unfold takeL
  rw [u_enc x _ hx.1 (by omega)]
  simp only
  rw [u_enc p _ h0 (by omega)]
  unfold tkLab
  rw [if_neg (by simp), if_neg (by simp only; omega)]
theorem takeA_back (a : AttrD) (hn : a.1.size ≤ 24) (hl : okL a.2.1 = true) (hv : okV a.2.2.2 = true) (hw : WfA a) (r : List Int) : takeA (attrB a ++ r) 0 = (a, r, 0) := by
  obtain ⟨s, x, p, v⟩ := a
  have e : attrB (s, x, p, v) ++ r = Num.enc (bytesOf s).length ++ (bytesOf s ++ (Num.enc x ++ (Num.enc p ++ (valB v ++ r)))) := by
    unfold attrB
    simp only [List.append_assoc, bytesOf_length]
  unfold takeA
  rw [e, t_enc 24 (bytesOf s) _ (by rw [bytesOf_length]; simp only at hn; omega) (by decide) _ rfl]
  simp only
  rw [takeL_back x p hl hw.1 hw.2]
  simp only
  rw [takeV_back v hv, str_bytes]
theorem takeN_back : ∀ (xs : List AttrD), (∀ a ∈ xs, a.1.size ≤ 24 ∧ okL a.2.1 = true ∧ okV a.2.2.2 = true ∧ WfA a) → ∀ r : List Int, takeN xs.length (asB xs ++ r) 0 = (xs, r, 0)
  | [], _, r => rfl
  | a :: t, h, r => by
    have ha := h a (List.mem_cons_self ..)
    have ih := takeN_back t (fun b hb => h b (List.mem_cons_of_mem _ hb)) r
    show takeN (t.length + 1) ((attrB a ++ asB t) ++ r) 0 = _
    rw [List.append_assoc]
    unfold takeN
    rw [if_neg (by simp), takeA_back a ha.1 ha.2.1 ha.2.2.1 ha.2.2.2]
    simp only
    rw [ih]
theorem okA_parts {a : AttrD} (h : okA a = true) : a.1.size ≤ 24 ∧ okL a.2.1 = true ∧ okV a.2.2.2 = true := by
  unfold okA at h
  simp only [Bool.and_eq_true] at h
  exact ⟨(isNm_size h.1.1).2, h.1.2, h.2⟩
theorem okAs_all {l : List AttrD} (h : okAs l = true) : l.length ≤ 8 ∧ ∀ a ∈ l, okA a = true := by
  unfold okAs at h
  simp only [Bool.and_eq_true, decide_eq_true_eq, List.all_eq_true] at h
  exact h.1
/-- What was written is read xs it was. -/
theorem takeAs_back (xs : List AttrD) (h : okAs xs = true) (hw : ∀ a ∈ xs, WfA a) (r : List Int) : takeAs (listB xs ++ r) 0 = (xs, r, 0) := by
  have ha := okAs_all h
  unfold takeAs listB
  rw [List.append_assoc, u_enc xs.length _ (by omega) (by omega)]
  simp only
  rw [if_neg (by simp), if_neg (by omega), Int.toNat_natCast, takeN_back xs (fun a hm => ⟨(okA_parts (ha.2 a hm)).1, (okA_parts (ha.2 a hm)).2.1, (okA_parts (ha.2 a hm)).2.2, hw a hm⟩) r]
  unfold takeQs
  rw [if_neg (by simp), if_pos h]

theorem takeL_was {l l' : List Int} {x p e : Int} (hl : Byt l) (h : takeL l e = (x, p, l', 0)) : e = 0 ∧ okL x = true ∧ (0 ≤ p ∧ p ≤ 4294967295) ∧ l = Num.enc x ++ (Num.enc p ++ l') := by
  obtain ⟨n1, l1, e1, h1⟩ : ∃ n l1 e1, uStep 9007199254740991 l e = (n, l1, e1) := ⟨_, _, _, rfl⟩
  obtain ⟨n2, l2, e2, h2⟩ : ∃ n l2 e2, uStep 9007199254740991 l1 e1 = (n, l2, e2) := ⟨_, _, _, rfl⟩
  unfold takeL at h
  rw [h1] at h
  simp only at h
  rw [h2] at h
  simp only at h
  unfold tkLab at h
  split at h
  · simp only [Prod.mk.injEq] at h
    exact absurd h.2.2.2 (by assumption)
  · rename_i he
    have he : e2 = 0 := by simpa using he
    split at h
    · simp only [Prod.mk.injEq] at h
      exact absurd h.2.2.2 (by decide)
    · rename_i hb
      simp only [Prod.mk.injEq] at h
      obtain ⟨rfl, rfl, rfl, _⟩ := h
      subst he
      have he1 := u_err h2
      subst he1
      have he0 := u_err h1
      subst he0
      have b1 := u_byt hl h1
      have r1 := u_rng (by decide) hl h1
      have r2 := u_rng (by decide) b1 h2
      refine ⟨rfl, ?_, ⟨r2, by omega⟩, ?_⟩
      · unfold okL
        rw [decide_eq_true r1, decide_eq_true (show n1 ≤ 7 by omega)]
        rfl
      · rw [← u_was b1 h2]
        exact u_was hl h1
theorem takeL_byt {l l' : List Int} {x p e e' : Int} (hl : Byt l) (h : takeL l e = (x, p, l', e')) : Byt l' := by
  obtain ⟨n1, l1, e1, h1⟩ : ∃ n l1 e1, uStep 9007199254740991 l e = (n, l1, e1) := ⟨_, _, _, rfl⟩
  obtain ⟨n2, l2, e2, h2⟩ : ∃ n l2 e2, uStep 9007199254740991 l1 e1 = (n, l2, e2) := ⟨_, _, _, rfl⟩
  have b2 := u_byt (u_byt hl h1) h2
  unfold takeL at h
  rw [h1] at h
  simp only at h
  rw [h2] at h
  simp only at h
  unfold tkLab at h
  repeat' split at h
  all_goals simp only [Prod.mk.injEq] at h
  · rw [← h.2.2.1]; exact b2
  · rw [← h.2.2.1]; exact Byt.nil
  · rw [← h.2.2.1]; exact b2
/-- What was read of one attribute. -/
theorem takeA_was {l l' : List Int} {a : AttrD} (hl : Byt l) (h : takeA l 0 = (a, l', 0)) : (a.1.size ≤ 24 ∧ okL a.2.1 = true ∧ okV a.2.2.2 = true ∧ WfA a) ∧ l = attrB a ++ l' := by
  obtain ⟨bs, l1, e1, h1⟩ : ∃ bs l1 e1, bStep (textR 24 l) l 0 = (bs, l1, e1) := ⟨_, _, _, rfl⟩
  obtain ⟨x, p, l2, e2, h2⟩ : ∃ x p l2 e2, takeL l1 e1 = (x, p, l2, e2) := ⟨_, _, _, _, rfl⟩
  obtain ⟨v, l3, e3, h3⟩ : ∃ v l3 e3, takeV l2 e2 = (v, l3, e3) := ⟨_, _, _, rfl⟩
  unfold takeA at h
  rw [h1] at h
  simp only at h
  rw [h2] at h
  simp only at h
  rw [h3] at h
  simp only [Prod.mk.injEq] at h
  obtain ⟨rfl, rfl, rfl⟩ := h
  have e20 := takeV_err h3
  subst e20
  have b1 := t_byt hl h1
  obtain ⟨e10, q1, q2, q3⟩ := takeL_was b1.1 h2
  subst e10
  have b2 := takeL_byt b1.1 h2
  have w1 := t_was hl h1
  have w3 := takeV_was b2 h3
  have hs : (strOfNums bs).size = bs.length := by rw [← bytesOf_length, bytes_str bs b1.2]
  refine ⟨⟨by simp only; rw [hs]; omega, q1, w3.1, q2⟩, ?_⟩
  unfold attrB
  simp only [List.append_assoc]
  rw [hs, bytes_str bs b1.2, ← w3.2, ← q3]
  exact w1.1
theorem takeA_err {l l' : List Int} {a : AttrD} {e : Int} (hl : Byt l) (h : takeA l e = (a, l', 0)) : e = 0 := by
  obtain ⟨bs, l1, e1, h1⟩ : ∃ bs l1 e1, bStep (textR 24 l) l e = (bs, l1, e1) := ⟨_, _, _, rfl⟩
  obtain ⟨x, p, l2, e2, h2⟩ : ∃ x p l2 e2, takeL l1 e1 = (x, p, l2, e2) := ⟨_, _, _, _, rfl⟩
  obtain ⟨v, l3, e3, h3⟩ : ∃ v l3 e3, takeV l2 e2 = (v, l3, e3) := ⟨_, _, _, rfl⟩
  unfold takeA at h
  rw [h1] at h
  simp only at h
  rw [h2] at h
  simp only at h
  rw [h3] at h
  simp only [Prod.mk.injEq] at h
  obtain ⟨rfl, rfl, rfl⟩ := h
  have e20 := takeV_err h3
  subst e20
  have b1 := t_byt hl h1
  obtain ⟨e10, _⟩ := takeL_was b1.1 h2
  subst e10
  exact t_err h1
theorem takeA_byt {l l' : List Int} {a : AttrD} {e e' : Int} (hl : Byt l) (h : takeA l e = (a, l', e')) : Byt l' := by
  obtain ⟨bs, l1, e1, h1⟩ : ∃ bs l1 e1, bStep (textR 24 l) l e = (bs, l1, e1) := ⟨_, _, _, rfl⟩
  obtain ⟨x, p, l2, e2, h2⟩ : ∃ x p l2 e2, takeL l1 e1 = (x, p, l2, e2) := ⟨_, _, _, _, rfl⟩
  obtain ⟨v, l3, e3, h3⟩ : ∃ v l3 e3, takeV l2 e2 = (v, l3, e3) := ⟨_, _, _, rfl⟩
  have b1 := t_byt hl h1
  have b2 := takeL_byt b1.1 h2
  have b3 := takeV_byt b2 h3
  unfold takeA at h
  rw [h1] at h
  simp only at h
  rw [h2] at h
  simp only at h
  rw [h3] at h
  simp only [Prod.mk.injEq] at h
  rw [← h.2.1]
  exact b3
theorem takeN_was : ∀ (n : Nat) {l l' : List Int} {xs : List AttrD}, Byt l → takeN n l 0 = (xs, l', 0) → xs.length = n ∧ (∀ a ∈ xs, a.1.size ≤ 24 ∧ okL a.2.1 = true ∧ okV a.2.2.2 = true ∧ WfA a) ∧ l = asB xs ++ l'
  | 0, l, l', xs, hl, h => by
    unfold takeN at h
    simp only [Prod.mk.injEq] at h
    obtain ⟨rfl, rfl, _⟩ := h
    exact ⟨rfl, fun a ha => (by cases ha), rfl⟩
  | n + 1, l, l', xs, hl, h => by
    unfold takeN at h
    rw [if_neg (by simp)] at h
    obtain ⟨a, l1, e1, h1⟩ : ∃ a l1 e1, takeA l 0 = (a, l1, e1) := ⟨_, _, _, rfl⟩
    rw [h1] at h
    simp only at h
    obtain ⟨t, l2, e2, h2⟩ : ∃ t l2 e2, takeN n l1 e1 = (t, l2, e2) := ⟨_, _, _, rfl⟩
    rw [h2] at h
    simp only [Prod.mk.injEq] at h
    obtain ⟨rfl, rfl, rfl⟩ := h
    have he1 : e1 = 0 := by
      by_cases he : e1 = 0
      · exact he
      · cases n with
        | zero => unfold takeN at h2; simp only [Prod.mk.injEq] at h2; exact h2.2.2
        | succ n => unfold takeN at h2; rw [if_pos he] at h2; simp only [Prod.mk.injEq] at h2; exact h2.2.2
    subst he1
    have ih := takeN_was n (takeA_byt hl h1) h2
    have w := takeA_was hl h1
    refine ⟨by rw [List.length_cons, ih.1], ?_, ?_⟩
    · intro b hb
      rcases List.mem_cons.1 hb with rfl | hb
      · exact w.1
      · exact ih.2.1 b hb
    · show l = (attrB a ++ asB t) ++ l2
      rw [List.append_assoc, ← ih.2.2]
      exact w.2
/-- What was read may be, and was written so. -/
theorem takeAs_was {l l' : List Int} {xs : List AttrD} (hl : Byt l) (h : takeAs l 0 = (xs, l', 0)) : okAs xs = true ∧ (∀ a ∈ xs, WfA a) ∧ l = listB xs ++ l' := by
  obtain ⟨c, l1, e1, h1⟩ : ∃ c l1 e1, uStep 9007199254740991 l 0 = (c, l1, e1) := ⟨_, _, _, rfl⟩
  unfold takeAs at h
  rw [h1] at h
  simp only at h
  split at h
  · simp only [Prod.mk.injEq] at h
    exact absurd h.2.2 (by assumption)
  · rename_i he
    have he : e1 = 0 := by simpa using he
    subst he
    split at h
    · simp only [Prod.mk.injEq] at h
      exact absurd h.2.2 (by decide)
    · rename_i hc
      obtain ⟨t, l2, e2, h2⟩ : ∃ t l2 e2, takeN c.toNat l1 0 = (t, l2, e2) := ⟨_, _, _, rfl⟩
      rw [h2] at h
      unfold takeQs at h
      split at h
      · simp only [Prod.mk.injEq] at h
        exact absurd h.2.2 (by assumption)
      · split at h
        · rename_i hok
          simp only [Prod.mk.injEq] at h
          obtain ⟨rfl, rfl, rfl⟩ := h
          have w := takeN_was _ (u_byt hl h1) h2
          have hr := u_rng (by decide) hl h1
          refine ⟨hok, fun a ha => (w.2.1 a ha).2.2.2, ?_⟩
          unfold listB
          rw [w.1, Int.toNat_of_nonneg hr, List.append_assoc, ← w.2.2]
          exact u_was hl h1
        · simp only [Prod.mk.injEq] at h
          exact absurd h.2.2 (by decide)
/-- With an error: nothing. -/
theorem takeAs_bad {l l' : List Int} {xs : List AttrD} {e e' : Int} (h : takeAs l e = (xs, l', e')) (he : e' ≠ 0) : xs = [] := by
  obtain ⟨c, l1, e1, h1⟩ : ∃ c l1 e1, uStep 9007199254740991 l e = (c, l1, e1) := ⟨_, _, _, rfl⟩
  obtain ⟨t, l2, e2, h2⟩ : ∃ t l2 e2, takeN c.toNat l1 0 = (t, l2, e2) := ⟨_, _, _, rfl⟩
  unfold takeAs at h
  rw [h1] at h
  simp only at h
  rw [h2] at h
  by_cases k1 : e1 ≠ 0
  · rw [if_pos k1] at h
    simp only [Prod.mk.injEq] at h
    exact h.1.symm
  · rw [if_neg k1] at h
    by_cases k2 : 8 < c
    · rw [if_pos k2] at h
      simp only [Prod.mk.injEq] at h
      exact h.1.symm
    · rw [if_neg k2] at h
      unfold takeQs at h
      by_cases k3 : e2 ≠ 0
      · rw [if_pos k3] at h
        simp only [Prod.mk.injEq] at h
        exact h.1.symm
      · rw [if_neg k3] at h
        by_cases k4 : okAs t = true
        · rw [if_pos k4] at h
          simp only [Prod.mk.injEq] at h
          exact absurd (by rw [← h.2.2]; simpa using k3) he
        · rw [if_neg k4] at h
          simp only [Prod.mk.injEq] at h
          exact h.1.symm

/-- How many bytes. -/
theorem asB_len : ∀ xs : List AttrD, (asB xs).length = (xs.map fun a => (attrB a).length).sum
  | [] => rfl
  | a :: t => by
    have ih := asB_len t
    show (attrB a ++ asB t).length = _
    rw [List.length_append, ih, List.map_cons, List.sum_cons]
theorem attrB_len (a : AttrD) : (attrB a).length = Num.sz a.1.size + a.1.size + (Num.sz a.2.1 + Num.sz a.2.2.1) + (valB a.2.2.2).length := by
  unfold attrB
  simp only [List.length_append, Num.enc_length, bytesOf_length]
  omega
/-- Other bytes in a text, xs many: xs many bytes. -/
theorem valB_same {n : Int} {s t : ByteArray} (h : s.size = t.size) : (valB (2, n, s)).length = (valB (2, n, t)).length := by
  rw [valB2, valB2]
  simp only [List.length_append, Num.enc_length, bytesOf_length, h]
end

section
/-- Two answers that are the same but for what is left behind an error. -/
def Agr {α : Type} (a b : α × List Int × Int) : Prop := a.1 = b.1 ∧ a.2.2 = b.2.2 ∧ (a.2.2 = 0 → b.2.1 = a.2.1)

def xPart (k : Int) (l : List Int) (e : Int) : Int × ByteArray × List Int × Int :=
  if k = 1 then (unfoldI (xStep 18014398509481982 l e).1, ⟨#[]⟩, (xStep 18014398509481982 l e).2.1, (xStep 18014398509481982 l e).2.2)
  else if k = 2 then (0, strOfNums (xText 64 l e).1, (xText 64 l e).2.1, (xText 64 l e).2.2)
  else if k = 3 then ((xStep 9007199254740991 l e).1, ⟨#[]⟩, (xStep 9007199254740991 l e).2.1, (xStep 9007199254740991 l e).2.2)
  else (0, ⟨#[]⟩, l, e)
/-- The error once what was read is looked at: Fail keeps an older one. -/
def failE (ok : Bool) (e : Int) : Int := if ok then e else if e ≠ 0 then e else 4
theorem failE_t (e : Int) : failE true e = e := rfl
theorem failE_f {e : Int} (h : e ≠ 0) : failE false e = e := by unfold failE; rw [if_neg (by simp), if_pos h]
def xTakeQ (k : Int) (q : Int × ByteArray × List Int × Int) : ValD × List Int × Int :=
  (if failE (okV (k, q.1, q.2.1)) q.2.2.2 ≠ 0 then valZ else (k, q.1, q.2.1), q.2.2.1, failE (okV (k, q.1, q.2.1)) q.2.2.2)
def xTakeV (l : List Int) (e : Int) : ValD × List Int × Int :=
  xTakeQ (xStep 9007199254740991 l e).1 (xPart (xStep 9007199254740991 l e).1 (xStep 9007199254740991 l e).2.1 (xStep 9007199254740991 l e).2.2)

theorem part_agree (k : Int) (l lx : List Int) (e : Int) (h : e = 0 → lx = l) :
    (part k l e).1 = (xPart k lx e).1 ∧ (part k l e).2.1 = (xPart k lx e).2.1 ∧ (part k l e).2.2.2 = (xPart k lx e).2.2.2 ∧ ((part k l e).2.2.2 = 0 → (xPart k lx e).2.2.1 = (part k l e).2.2.1) := by
  unfold part xPart
  by_cases h1 : k = 1
  · rw [if_pos h1, if_pos h1]
    have a := u_agree 18014398509481982 l lx e h
    exact ⟨by simp only; rw [a.1], rfl, a.2.1, a.2.2⟩
  · rw [if_neg h1, if_neg h1]
    by_cases h2 : k = 2
    · rw [if_pos h2, if_pos h2]
      have a := text_agree 64 l lx e h
      exact ⟨rfl, by simp only; rw [a.1], a.2.1, a.2.2⟩
    · rw [if_neg h2, if_neg h2]
      by_cases h3 : k = 3
      · rw [if_pos h3, if_pos h3]
        have a := u_agree 9007199254740991 l lx e h
        exact ⟨a.1, rfl, a.2.1, a.2.2⟩
      · rw [if_neg h3, if_neg h3]
        exact ⟨rfl, rfl, rfl, h⟩
theorem takeV_agree (l lx : List Int) (e : Int) (h : e = 0 → lx = l) : Agr (takeV l e) (xTakeV lx e) := by
  have a := u_agree 9007199254740991 l lx e h
  unfold takeV xTakeV
  rw [← a.1, ← a.2.1]
  obtain ⟨k, l1, e1, h1⟩ : ∃ k l1 e1, uStep 9007199254740991 l e = (k, l1, e1) := ⟨_, _, _, rfl⟩
  rw [h1] at a ⊢
  simp only at a ⊢
  have b := part_agree k l1 (xStep 9007199254740991 lx e).2.1 e1 a.2.2
  generalize (xStep 9007199254740991 lx e).2.1 = lx1 at *
  obtain ⟨n, s, l2, e2, h2⟩ : ∃ n s l2 e2, part k l1 e1 = (n, s, l2, e2) := ⟨_, _, _, _, rfl⟩
  obtain ⟨n', s', l2', e2', h3⟩ : ∃ n s l2 e2, xPart k lx1 e1 = (n, s, l2, e2) := ⟨_, _, _, _, rfl⟩
  rw [h2, h3] at b
  simp only at b
  obtain ⟨rfl, rfl, rfl, b4⟩ := b
  rw [h2, h3]
  unfold takeQ xTakeQ Agr
  simp only
  by_cases k1 : e2 = 0
  · subst k1
    rw [if_neg (by simp)]
    cases hk : okV (k, n, s)
    · exact ⟨rfl, rfl, fun h => absurd (show (4 : Int) = 0 from h) (by decide)⟩
    · exact ⟨rfl, rfl, b4⟩
  · rw [if_pos k1]
    cases hk : okV (k, n, s)
    · rw [failE_f k1, if_pos k1]
      exact ⟨rfl, rfl, b4⟩
    · rw [failE_t, if_pos k1]
      exact ⟨rfl, rfl, b4⟩

theorem tk_err {n1 n2 e : Int} {l : List Int} (h : e ≠ 0) : tkLab n1 n2 l e = (0, 0, l, e) := by unfold tkLab; rw [if_pos h]
theorem tk_big {n1 n2 : Int} {l : List Int} (h : 7 < n1 ∨ 4294967295 < n2) : tkLab n1 n2 l 0 = (0, 0, [], 4) := by unfold tkLab; rw [if_neg (by simp), if_pos h]
theorem tk_ok {n1 n2 : Int} {l : List Int} (h : ¬(7 < n1 ∨ 4294967295 < n2)) : tkLab n1 n2 l 0 = (n1, n2, l, 0) := by unfold tkLab; rw [if_neg (by simp), if_neg h]
/-- The document's Take of a label. -/
def xTakeL (l : List Int) (e : Int) : Int × Int × List Int × Int :=
  let a := xStep 9007199254740991 l e
  let b := xStep 9007199254740991 a.2.1 a.2.2
  ((tkLab a.1 b.1 [] b.2.2).1, (tkLab a.1 b.1 [] b.2.2).2.1, b.2.1, (tkLab a.1 b.1 [] b.2.2).2.2.2)
theorem takeL_agree (l lx : List Int) (e : Int) (h : e = 0 → lx = l) :
    (takeL l e).1 = (xTakeL lx e).1 ∧ (takeL l e).2.1 = (xTakeL lx e).2.1 ∧ (takeL l e).2.2.2 = (xTakeL lx e).2.2.2 ∧ ((takeL l e).2.2.2 = 0 → (xTakeL lx e).2.2.1 = (takeL l e).2.2.1) := by
  have a := u_agree 9007199254740991 l lx e h
  unfold takeL xTakeL
  obtain ⟨n1, l1, e1, h1⟩ : ∃ k l1 e1, uStep 9007199254740991 l e = (k, l1, e1) := ⟨_, _, _, rfl⟩
  obtain ⟨m1, x1, f1, g1⟩ : ∃ k l1 e1, xStep 9007199254740991 lx e = (k, l1, e1) := ⟨_, _, _, rfl⟩
  rw [h1, g1] at a
  simp only at a
  obtain ⟨rfl, rfl, a3⟩ := a
  rw [h1, g1]
  simp only
  have b := u_agree 9007199254740991 l1 x1 e1 a3
  obtain ⟨n2, l2, e2, h2⟩ : ∃ k l' e', uStep 9007199254740991 l1 e1 = (k, l', e') := ⟨_, _, _, rfl⟩
  obtain ⟨m2, x2, f2, g2⟩ : ∃ k l' e', xStep 9007199254740991 x1 e1 = (k, l', e') := ⟨_, _, _, rfl⟩
  rw [h2, g2] at b
  simp only at b
  obtain ⟨rfl, rfl, b3⟩ := b
  rw [h2, g2]
  simp only
  by_cases k1 : e2 = 0
  · subst k1
    by_cases k2 : 7 < n1 ∨ 4294967295 < n2
    · rw [tk_big k2, tk_big k2]
      exact ⟨rfl, rfl, rfl, fun h => absurd (show (4 : Int) = 0 from h) (by decide)⟩
    · rw [tk_ok k2, tk_ok k2]
      exact ⟨rfl, rfl, rfl, b3⟩
  · rw [tk_err k1, tk_err k1]
    exact ⟨rfl, rfl, rfl, b3⟩

def xTakeA (l : List Int) (e : Int) : AttrD × List Int × Int :=
  let n := xText 24 l e
  let b := xTakeL n.2.1 n.2.2
  let v := xTakeV b.2.2.1 b.2.2.2
  ((strOfNums n.1, b.1, b.2.1, v.1), v.2.1, v.2.2)
theorem takeA_agree (l lx : List Int) (e : Int) (h : e = 0 → lx = l) : Agr (takeA l e) (xTakeA lx e) := by
  have a := text_agree 24 l lx e h
  unfold takeA xTakeA
  obtain ⟨bs, l1, e1, h1⟩ : ∃ k l1 e1, bStep (textR 24 l) l e = (k, l1, e1) := ⟨_, _, _, rfl⟩
  obtain ⟨cs, x1, f1, g1⟩ : ∃ k l1 e1, xText 24 lx e = (k, l1, e1) := ⟨_, _, _, rfl⟩
  rw [h1, g1] at a
  simp only at a
  obtain ⟨rfl, rfl, a3⟩ := a
  rw [h1, g1]
  simp only
  have b := takeL_agree l1 x1 e1 a3
  obtain ⟨x, p, l2, e2, h2⟩ : ∃ x p l e, takeL l1 e1 = (x, p, l, e) := ⟨_, _, _, _, rfl⟩
  obtain ⟨x', p', x2, f2, g2⟩ : ∃ x p l e, xTakeL x1 e1 = (x, p, l, e) := ⟨_, _, _, _, rfl⟩
  rw [h2, g2] at b
  simp only at b
  obtain ⟨rfl, rfl, rfl, b3⟩ := b
  rw [h2, g2]
  simp only
  have c := takeV_agree l2 x2 e2 b3
  obtain ⟨v, l3, e3, h3⟩ : ∃ v l e, takeV l2 e2 = (v, l, e) := ⟨_, _, _, rfl⟩
  obtain ⟨v', x3, f3, g3⟩ : ∃ v l e, xTakeV x2 e2 = (v, l, e) := ⟨_, _, _, rfl⟩
  unfold Agr at c
  rw [h3, g3] at c
  simp only at c
  obtain ⟨rfl, rfl, c3⟩ := c
  rw [h3, g3]
  exact ⟨rfl, rfl, c3⟩
def xTakeN : Nat → List Int → Int → List AttrD × List Int × Int
  | 0, l, e => ([], l, e)
  | n + 1, l, e => if e ≠ 0 then ([], l, e) else ((xTakeA l e).1 :: (xTakeN n (xTakeA l e).2.1 (xTakeA l e).2.2).1, (xTakeN n (xTakeA l e).2.1 (xTakeA l e).2.2).2)
theorem takeN_agree : ∀ (n : Nat) (l lx : List Int) (e : Int), (e = 0 → lx = l) → Agr (takeN n l e) (xTakeN n lx e)
  | 0, l, lx, e, h => ⟨rfl, rfl, h⟩
  | n + 1, l, lx, e, h => by
    unfold takeN xTakeN
    by_cases he : e ≠ 0
    · rw [if_pos he, if_pos he]
      exact ⟨rfl, rfl, h⟩
    · rw [if_neg he, if_neg he]
      have a := takeA_agree l lx e h
      unfold Agr at a
      obtain ⟨x, l1, e1, h1⟩ : ∃ v l' e', takeA l e = (v, l', e') := ⟨_, _, _, rfl⟩
      obtain ⟨y, x1, f1, g1⟩ : ∃ v l' e', xTakeA lx e = (v, l', e') := ⟨_, _, _, rfl⟩
      rw [h1, g1] at a
      simp only at a
      obtain ⟨rfl, rfl, a3⟩ := a
      rw [h1, g1]
      have ih := takeN_agree n l1 x1 e1 a3
      exact ⟨by simp only; rw [ih.1], ih.2.1, ih.2.2⟩
def xTakeAs (l : List Int) (e : Int) : List AttrD × List Int × Int :=
  let c := xStep 9007199254740991 l e
  if c.2.2 ≠ 0 then ([], c.2) else if 8 < c.1 then ([], c.2.1, 4) else
    let r := xTakeN c.1.toNat c.2.1 0
    (if failE (okAs r.1) r.2.2 ≠ 0 then [] else r.1, r.2.1, failE (okAs r.1) r.2.2)
theorem takeAs_agree (l lx : List Int) (e : Int) (h : e = 0 → lx = l) : Agr (takeAs l e) (xTakeAs lx e) := by
  have a := u_agree 9007199254740991 l lx e h
  unfold takeAs xTakeAs
  obtain ⟨c, l1, e1, h1⟩ : ∃ k l1 e1, uStep 9007199254740991 l e = (k, l1, e1) := ⟨_, _, _, rfl⟩
  obtain ⟨d, x1, f1, g1⟩ : ∃ k l1 e1, xStep 9007199254740991 lx e = (k, l1, e1) := ⟨_, _, _, rfl⟩
  rw [h1, g1] at a
  simp only at a
  obtain ⟨rfl, rfl, a3⟩ := a
  rw [h1, g1]
  simp only
  by_cases k1 : e1 ≠ 0
  · rw [if_pos k1, if_pos k1]
    exact ⟨rfl, rfl, a3⟩
  · rw [if_neg k1, if_neg k1]
    by_cases k2 : 8 < c
    · rw [if_pos k2, if_pos k2]
      exact ⟨rfl, rfl, fun h => absurd h (by decide)⟩
    · rw [if_neg k2, if_neg k2]
      have b := takeN_agree c.toNat l1 x1 0 (fun _ => a3 (by simpa using k1))
      unfold Agr at b
      obtain ⟨xs, l2, e2, h2⟩ : ∃ v l' e', takeN c.toNat l1 0 = (v, l', e') := ⟨_, _, _, rfl⟩
      obtain ⟨ys, x2, f2, g2⟩ : ∃ v l' e', xTakeN c.toNat x1 0 = (v, l', e') := ⟨_, _, _, rfl⟩
      rw [h2, g2] at b
      simp only at b
      obtain ⟨rfl, rfl, b3⟩ := b
      rw [h2, g2]
      unfold takeQs Agr
      simp only
      by_cases k3 : e2 = 0
      · subst k3
        rw [if_neg (by simp)]
        cases hk : okAs xs
        · exact ⟨rfl, rfl, fun h => absurd (show (4 : Int) = 0 from h) (by decide)⟩
        · exact ⟨rfl, rfl, b3⟩
      · rw [if_pos k3]
        cases hk : okAs xs
        · rw [failE_f k3, if_pos k3]
          exact ⟨rfl, rfl, b3⟩
        · rw [failE_t, if_pos k3]
          exact ⟨rfl, rfl, b3⟩

/-! How two values stand. -/
def cmpI (x y : Int) : Int := if x < y then -1 else if y < x then 1 else 0
def cmpS (s t : ByteArray) : Int := if lts s t then -1 else if lts t s then 1 else 0
def orI' (x y : Int) : Int := if x ≠ 0 then x else y
def cmpV (a b : ValD) : Int := orI' (cmpI a.1 b.1) (orI' (cmpI a.2.1 b.2.1) (cmpS a.2.2 b.2.2))

/-- An order told by -1, 0, 1. -/
structure Ordr {α : Type} (c : α → α → Int) : Prop where
  bd : ∀ a b, c a b = -1 ∨ c a b = 0 ∨ c a b = 1
  rev : ∀ a b, c a b = -c b a
  eq : ∀ a b, c a b = 0 → a = b
  le : ∀ a b d, c a b ≤ 0 → c b d ≤ 0 → c a d ≤ 0
  lt : ∀ a b d, c a b < 0 → c b d ≤ 0 → c a d < 0
theorem Ordr.self {α : Type} {c : α → α → Int} (h : Ordr c) (a : α) : c a a = 0 := by
  have := h.rev a a
  omega
theorem cmpI_ordr : Ordr cmpI := by
  refine ⟨fun a b => ?_, fun a b => ?_, fun a b => ?_, fun a b d => ?_, fun a b d => ?_⟩ <;> unfold cmpI <;> (repeat' split) <;> omega
theorem cmpS_ordr : Ordr cmpS := by
  have bd : ∀ a b, cmpS a b = -1 ∨ cmpS a b = 0 ∨ cmpS a b = 1 := fun a b => by unfold cmpS; (repeat' split) <;> omega
  have neg : ∀ {a b}, cmpS a b < 0 ↔ lts a b = true := fun {a b} => by
    unfold cmpS
    cases h : lts a b
    · simp
      split <;> omega
    · simp
  have rev : ∀ a b, cmpS a b = -cmpS b a := fun a b => by
    unfold cmpS
    cases h : lts a b
    · cases k : lts b a <;> simp
    · rw [lts_asym h]; simp
  have eq : ∀ a b, cmpS a b = 0 → a = b := fun a b e => by
    unfold cmpS at e
    cases h : lts a b
    · cases k : lts b a
      · exact lts_tot h k
      · rw [h, k] at e; simp at e
    · rw [h] at e; simp at e
  have tr : ∀ a b d, cmpS a b < 0 → cmpS b d < 0 → cmpS a d < 0 := fun a b d h k => neg.2 (lts_trans (neg.1 h) (neg.1 k))
  have self : ∀ a, cmpS a a = 0 := fun a => by have := rev a a; omega
  refine ⟨bd, rev, eq, fun a b d h k => ?_, fun a b d h k => ?_⟩
  · by_cases h0 : cmpS a b = 0
    · rw [eq a b h0]; exact k
    · by_cases k0 : cmpS b d = 0
      · rw [← eq b d k0]; exact h
      · have := tr a b d (by omega) (by omega)
        omega
  · by_cases k0 : cmpS b d = 0
    · rw [← eq b d k0]; exact h
    · exact tr a b d h (by omega)
/-- One order, and where it tells nothing another one. -/
theorem Ordr.both {α β : Type} {c : α → α → Int} {d : β → β → Int} (h : Ordr c) (k : Ordr d) : Ordr fun (a b : α × β) => orI' (c a.1 b.1) (d a.2 b.2) := by
  refine ⟨fun a b => ?_, fun a b => ?_, fun a b e => ?_, fun a b x p q => ?_, fun a b x p q => ?_⟩
  · unfold orI'; have := h.bd a.1 b.1; have := k.bd a.2 b.2; split <;> omega
  · unfold orI'; have := h.rev a.1 b.1; have := k.rev a.2 b.2; (repeat' split) <;> omega
  · unfold orI' at e
    split at e
    · exact absurd e (by assumption)
    · rename_i g
      have g : c a.1 b.1 = 0 := by simpa using g
      exact Prod.ext (h.eq _ _ g) (k.eq _ _ e)
  · unfold orI' at p q ⊢
    have b1 := h.bd a.1 b.1; have b2 := h.bd b.1 x.1; have b3 := h.bd a.1 x.1
    by_cases g1 : c a.1 b.1 = 0
    · have e1 := h.eq _ _ g1
      rw [if_neg (by simpa using g1)] at p
      rw [e1]
      by_cases g2 : c b.1 x.1 = 0
      · rw [if_neg (by simpa using g2)] at q ⊢
        exact k.le _ _ _ p q
      · rw [if_pos g2] at q ⊢
        exact q
    · rw [if_pos g1] at p
      by_cases g2 : c b.1 x.1 = 0
      · have e2 := h.eq _ _ g2
        rw [← e2, if_pos g1]; exact p
      · rw [if_pos g2] at q
        have := h.lt a.1 b.1 x.1 (by omega) q
        rw [if_pos (by omega)]; omega
  · unfold orI' at p q ⊢
    have b1 := h.bd a.1 b.1; have b2 := h.bd b.1 x.1; have b3 := h.bd a.1 x.1
    by_cases g1 : c a.1 b.1 = 0
    · have e1 := h.eq _ _ g1
      rw [if_neg (by simpa using g1)] at p
      rw [e1]
      by_cases g2 : c b.1 x.1 = 0
      · rw [if_neg (by simpa using g2)] at q ⊢
        exact k.lt _ _ _ p q
      · rw [if_pos g2] at q ⊢
        omega
    · rw [if_pos g1] at p
      by_cases g2 : c b.1 x.1 = 0
      · have e2 := h.eq _ _ g2
        rw [← e2, if_pos g1]; exact p
      · rw [if_pos g2] at q
        have := h.lt a.1 b.1 x.1 (by omega) q
        rw [if_pos (by omega)]; omega
theorem cmpV_ordr : Ordr cmpV := cmpI_ordr.both (cmpI_ordr.both cmpS_ordr)
/-- What the law of Compare asks. -/
theorem cmpV_law (a b c : ValD) : cmpV a b = -cmpV b a ∧ (cmpV a b = 0 ↔ a = b) ∧ -1 ≤ cmpV a b ∧ cmpV a b ≤ 1 ∧ (0 < cmpV a b ∨ 0 < cmpV b c ∨ cmpV a c ≤ 0) ∧ (0 ≤ cmpV a b ∨ 0 < cmpV b c ∨ cmpV a c < 0) := by
  have h := cmpV_ordr
  have b1 := h.bd a b; have b2 := h.bd b c
  refine ⟨h.rev a b, ⟨h.eq a b, fun e => e ▸ h.self a⟩, by omega, by omega, ?_, ?_⟩
  · by_cases p : 0 < cmpV a b
    · exact Or.inl p
    · by_cases q : 0 < cmpV b c
      · exact Or.inr (Or.inl q)
      · exact Or.inr (Or.inr (h.le a b c (by omega) (by omega)))
  · by_cases p : 0 ≤ cmpV a b
    · exact Or.inl p
    · by_cases q : 0 < cmpV b c
      · exact Or.inr (Or.inl q)
      · exact Or.inr (Or.inr (h.lt a b c (by omega) (by omega)))
end

end Go.Proofs.Yteifaipbckhoiab
