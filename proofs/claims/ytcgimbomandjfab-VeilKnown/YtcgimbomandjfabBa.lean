/- Rows of bytes that a call has made itself: append onto them; Bytes of labels, the program's and the document's. -/
import Derived.Test.YtcgimbomandjfabVc
import Derived.Test.YtcgimbomandjfabKo
namespace Go.Proofs.Ytcgimbomandjfab
open Go.RowKit
set_option linter.unusedVariables false

theorem info5 : ∃ i, Try.prog.info? 5 = some i ∧ i.zero = some (.int .u8 0) ∧ i.size = 1 ∧ i.bytes = 1 := ⟨(Try.prog.info? 5).getD default, by kernel_rfl, by kernel_rfl, by kernel_rfl, by kernel_rfl⟩

/-- The slice v holds the bytes l, in a block of its own, B or above, or is nil. -/
def Ow (B : Nat) (w : World) (v : Value) (l : List Int) : Prop :=
  Byt l ∧ l.length ≤ 140737488355328 ∧ w.ownsRow B 5 1 v l.length (l.map (Value.int .u8))

theorem Ow.bs {B : Nat} {w : World} {v : Value} {l : List Int} (h : Ow B w v l) : Bs (fun b => B ≤ b) w v l := by
  obtain ⟨h1, h2, h3⟩ := h
  refine ⟨h1, h2, ?_⟩
  have hc := fun g => h3.cells (g := g)
  rcases h3.2 with ⟨rfl, hn⟩ | ⟨g, cap, cur, rfl, hb, hg, hcap, _⟩
  · exact Or.inl ⟨rfl, List.length_eq_zero_iff.1 hn⟩
  · refine Or.inr ⟨g, 0, cap, rfl, hcap, hb, (Array.getElem?_eq_some_iff.1 hg).1, fun i hi => ?_⟩
    have h := hc g rfl i (.int .u8 (l.getD i 0)) (by
      rw [List.getElem?_map, List.getElem?_eq_getElem hi, List.getD_eq_getElem?_getD, List.getElem?_eq_getElem hi]
      rfl)
    rw [Addr.add_lit] at h
    exact h
theorem Ow.keep {B : Nat} {w w' : World} {v : Value} {l : List Int} (h : Ow B w v l) (k : Below w.heap.size w w') : Ow B w' v l :=
  ⟨h.1, h.2.1, h.2.2.kept (row := none) ⟨k.os, k.tape, k.output, k.size, fun i hi _ => k.block i hi⟩ (by cases hv : v.ownBlock <;> simp)⟩
theorem Ow.len {B : Nat} {w : World} {v : Value} {l : List Int} (h : Ow B w v l) : ∃ a cap, v = .slice a l.length cap := h.bs.len
theorem Ow.lower {B B' : Nat} {w : World} {v : Value} {l : List Int} (h : Ow B w v l) (hB : B' ≤ B) : Ow B' w v l := by
  obtain ⟨h1, h2, h3, h4⟩ := h
  refine ⟨h1, h2, h3, ?_⟩
  rcases h4 with h4 | ⟨g, cap, cur, hv, hb, hr⟩
  · exact Or.inl h4
  · exact Or.inr ⟨g, cap, cur, hv, Nat.le_trans hB hb, hr⟩
theorem Ow.new (w : World) (l : List Int) (hl : Byt l) (hb : l.length ≤ 140737488355328) : Ow w.heap.size (w.alloc (.cells (u8s l) 5)) (.slice (some ⟨w.heap.size, 0, none⟩) l.length l.length) l := by
  refine ⟨hl, hb, by simp, Or.inr ⟨w.heap.size, l.length, u8s l, rfl, Nat.le_refl _, heap_alloc_new _ _, Nat.le_refl _, by simp only [maxLen]; omega, by simp [u8s], ?_⟩⟩
  rw [Nat.mul_one, List.take_of_length_le (by simp [u8s])]
  rfl
theorem Ow.all {B : Nat} {w : World} {v : Value} {l : List Int} (h : Ow B w v l) : Bx w.heap.size w v l := Or.inl (h.bs.weaken (fun _ hb _ => hb))

theorem below_grown {B : Nat} {w w' : World} {row : Option Nat} (h : w.grownBy w' row) (hB : B ≤ w.heap.size) (hr : ∀ k, row = some k → B ≤ k) : Below B w w' :=
  ⟨h.os, h.tape, h.output, h.size, fun k hk => h.block k (by omega) (fun e => by have := hr k e.symm; omega)⟩

/-- The bytes of a row that is read: its address, and its cells. -/
theorem Bx.openB {N : Nat} {w : World} {v : Value} {l : List Int} (h : Bx N w v l) :
    (v = .slice none 0 0 ∧ l = []) ∨ ∃ a c, v = .slice (some a) l.length c ∧ ∀ j u, (l.map (Value.int .u8))[j]? = some u → w.cell? (a.add j) = some u := by
  rcases h with ⟨_, _, h3⟩ | ⟨rfl, x, cap, rfl⟩
  · rcases h3 with h3 | ⟨b, off, cap, rfl, _, _, _, hc⟩
    · exact Or.inl h3
    · refine Or.inr ⟨_, _, rfl, fun j u hj => ?_⟩
      have hj' : j < l.length := by
        by_cases hh : j < l.length
        · exact hh
        · rw [List.getElem?_eq_none (by simp; omega)] at hj; cases hj
      have := hc j hj'
      rw [List.getElem?_map, List.getElem?_eq_getElem hj'] at hj
      simp only [Option.map_some, Option.some.injEq] at hj
      rw [List.getD_eq_getElem?_getD, List.getElem?_eq_getElem hj', Option.getD_some] at this
      rw [← hj, Addr.add_lit]
      exact this
  · exact Or.inr ⟨x, cap, rfl, fun j u hj => by cases hj⟩

/-- An append onto a row of its own. -/
theorem append_ow {N B : Nat} {w : World} {v x : Value} {ld l : List Int} (h : Ow B w v ld) (hx : Bx N w x l) (hl : Byt l) (hB : B ≤ w.heap.size) (hb : ld.length + l.length ≤ 140737488355328) (ty : TypeId) :
    ∃ v' w', (Builtin.append_ #[26, 26] ty #[v, x]).run Try.prog w = .ok v' w' ∧ Ow B w' v' (ld ++ l) ∧ Below B w w' := by
  obtain ⟨i, hi, hz, hs, hby⟩ := info5
  rcases hx.openB with ⟨e1, e2⟩ | ⟨a, c, e1, hc⟩
  · subst e1; subst e2
    refine ⟨v, w, ?_, by rw [List.append_nil]; exact h, Below.refl _ _⟩
    rcases h.2.2.2 with ⟨rfl, hn⟩ | ⟨g, cap, cur, rfl, _, hg, hcap, _⟩
    · simp [Builtin.append_, run_underlying Try.underlying26, sizeOf, typeInfo, hi, Builtin.lenOf, Builtin.firstCells]
    · exact append_none (P := Try.prog) Try.underlying26 hi hs g 0 ld.length cap (Src.ofNil (P := Try.prog) w Try.underlying26 0) hcap
  · subst e1
    obtain ⟨v', w', hr, ho, hg, _⟩ := run_append_own (P := Try.prog) w B 26 ty 5 i (.int .u8 0) 1 1 Try.underlying26 hi hz hs hby rfl (by omega) v ld.length (ld.map (Value.int .u8)) h.2.2 a l.length c (l.map (Value.int .u8)) (by simp) hc
      (fun u hu => by obtain ⟨_, _, rfl⟩ := List.mem_map.1 hu; rfl) (by simp only [maxLen]; omega) (by omega) hB
    refine ⟨v', w', hr, ⟨h.1.append hl, by simpa using hb, ?_⟩, below_grown hg hB (fun k hk => (h.2.2.lt k hk).1)⟩
    rw [List.length_append, List.map_append]
    exact ho

/-- How a row is handed back, with no error. -/
def OwEnd (w : World) (l : List Int) (e : Ending) (w' : World) : Prop :=
  ∃ a cap, e = .returned (.tuple #[.slice a l.length cap, .int .i64 0]) ∧ Ow w.heap.size w' (.slice a l.length cap) l ∧ Below w.heap.size w w'

theorem U_ow (n : Int) (w : World) (h0 : 0 ≤ n) (h1 : n ≤ 9007199254740991) :
    Calls Try.prog 16 #[.int .i64 n] w fun e w' => OwEnd w (Num.enc n) e w' := by
  refine (U_ok n w h0 h1).mono ?_
  rintro e w' ⟨rfl, rfl⟩
  have hl := Num.enc_length n
  have h8 := Num.sz_bd n h0
  exact ⟨_, _, rfl, (Ow.new w _ (enc_byt n h0 (by omega)) (by omega)).keep (Below.refl _ _).drew, (below1 _ _).drew⟩

theorem p_bd (P : BitVec 32) : 0 ≤ (P.toNat : Int) ∧ (P.toNat : Int) ≤ 4294967295 := by
  have := P.isLt
  omega

set_option maxRecDepth 100000 in
set_option maxHeartbeats 1000000 in
theorem bytes_ok (x p : Int) (w : World) (hx : okL x = true) (hp : 0 ≤ p ∧ p ≤ 4294967295) :
    Calls Try.prog 5 #[.agg #[.int .i64 x, .int .u32 p]] w fun e w' => OwEnd w (Num.enc x ++ Num.enc p) e w' := by
  have HO := hd hx
  have HX := hd (okL_true hx)
  have HP := hd hp
  have hp0 := hp.1
  have hp1 := hp.2
  clear hx hp
  go_enter Try.func5, Try.ntmps5
  go_wp2_with fail
  have A1 := Lb.new w x p
  have B1 := below1 w (Obj.cells #[Value.int IntKind.i64 x, Value.int IntKind.u32 p] 24)
  generalize hN : w.heap.size = N at *
  have HN := hd hN
  clear hN
  generalize w.alloc (Obj.cells #[Value.int IntKind.i64 x, Value.int IntKind.u32 p] 24) = w1 at *
  refine (check_any x p w1).mono ?_
  rintro e w2 ⟨rfl, hk⟩
  rw [← HN.out] at B1
  have B2 := hd (below_below B1 hk)
  have A2 := hd (A1.keep hk)
  clear A1 B1 hk
  have c0 := A2.out.c0
  have c1 := A2.out.c1
  rw [HO.out]
  simp only [if_true]
  go_wp2_with fail
  refine (U_ow x w2 (by have := HX.out; omega) (by have := HX.out; omega)).mono ?_
  rintro e w3 ⟨a, cap, rfl, ho, hk⟩
  have B3 := hd (below_below B2.out hk)
  have A3 := hd (A2.out.keep hk)
  have O3 := hd (ho.lower B2.out.size)
  clear c0 c1 hk ho A2 B2
  have c0 := A3.out.c0
  have c1 := A3.out.c1
  go_wp2_with fail
  refine (U_ow p w3 (by have := HP.out; omega) (by have := HP.out; omega)).mono ?_
  rintro e w4 ⟨a2, cap2, rfl, ho, hk⟩
  have B4 := hd (below_below B3.out hk)
  have O4 := hd (O3.out.keep hk)
  obtain ⟨v', w5, hrun, ho5, hk5⟩ := append_ow (ty := 26) O4.out ho.all ho.1 B4.out.size (by
    have h1 := Num.enc_length x
    have h2 := Num.enc_length p
    have h3 := Num.sz_bd x HX.out.1
    have h4 := Num.sz_bd p HP.out.1
    omega)
  obtain ⟨a5, cap5, rfl⟩ := ho5.len
  have HR := hd hrun
  have HO5 := hd ho5
  have HK5 := hd (B4.out.trans hk5)
  clear c0 c1 hk ho A3 B3 O3 O4 B4 hrun ho5 hk5
  go_wp2_with (at_builtin; refine wpList_append_run _ rfl _ _ _ _ rfl _ _ rfl rfl _ w5 HR.out ?_)
  go_ret2
  refine ⟨a5, cap5, ?_, HO5.out, HK5.out⟩
  rw [List.length_append]
  rfl

set_option maxRecDepth 100000 in
set_option maxHeartbeats 1000000 in
theorem bytes_bad (x p : Int) (w : World) (hx : okL x = false) :
    Calls Try.prog 5 #[.agg #[.int .i64 x, .int .u32 p]] w fun e w' => VEnd w (.tuple #[.slice none 0 0, .int .i64 9]) e w' := by
  have HO := hd hx
  clear hx
  go_enter Try.func5, Try.ntmps5
  go_wp2_with fail
  refine (check_any x p _).mono ?_
  rintro e w2 ⟨rfl, hk⟩
  have B2 := hd (below_below (below1 w (Obj.cells #[Value.int IntKind.i64 x, Value.int IntKind.u32 p] 24)) hk)
  clear hk
  rw [HO.out]
  simp only [Bool.false_eq_true, if_false]
  go_wp2_with fail
  go_ret2
  exact VEnd.mk B2.out

end Go.Proofs.Ytcgimbomandjfab
