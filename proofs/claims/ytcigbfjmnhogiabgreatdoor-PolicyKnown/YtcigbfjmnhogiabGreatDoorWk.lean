/- The examples: works is true. -/
import Derived.Test.YtcigbfjmnhogiabGreatDoorPa
import Derived.Test.YtcigbfjmnhogiabGreatDoorRsm
namespace Go.Proofs.YtcigbfjmnhogiabGreatDoor
open Go.RowKit
set_option linter.unusedVariables false


abbrev exA : ByteArray := ⟨#[114, 117, 108, 101, 32, 117, 115, 101, 114, 46, 109, 97, 105, 108, 32, 51, 58, 48, 48, 48, 48, 48, 48, 48, 49, 10, 114, 101, 97, 100, 101, 114, 32, 111, 112, 115, 32, 50, 32, 53, 32, 49, 48, 48, 10]⟩
abbrev exB : ByteArray := ⟨#[114, 101, 97, 100, 101, 114, 32, 111, 112, 115, 32, 50, 32, 49, 32, 49, 48, 48]⟩
abbrev exC : ByteArray := ⟨#[35, 120, 10, 10, 114, 117, 108, 101, 32, 97, 32, 49, 10, 114, 117, 108, 101, 32, 97, 32, 50]⟩
abbrev stA : PolD := ([(⟨#[117, 115, 101, 114, 46, 109, 97, 105, 108]⟩, 3, 1)], [(⟨#[111, 112, 115]⟩, 2, 0, 5, 100)])
theorem exA_is : parseM exA = (some stA, 0) := by kernel_rfl
theorem exB_is : parseM exB = (none, 1) := by kernel_rfl
theorem exC_is : parseM exC = (none, 4) := by kernel_rfl

theorem parse_at (s : ByteArray) (q : Option PolD × Nat) (h : parseM s = q) (w : World) (hs : s.size ≤ 140737488355327) (h8 : 6 ≤ w.heap.size) (hg : Glob w) :
    Calls Tryz.prog 6 #[.string s] w fun e w' => PsM w e w' q := by
  subst h
  exact parse_ok s w hs h8 hg
theorem OwnP.elR {B : Nat} {w : World} {vr vq : Value} {st : PolD} (h : OwnP B w vr vq st) : El encR 3 w vr st.1 := OwR.el h.2.2.2.2.1 h.2.2.1
theorem OwnP.elQ {B : Nat} {w : World} {vr vq : Value} {st : PolD} (h : OwnP B w vr vq st) : El encQ 5 w vq st.2 := OwQ.el h.2.2.2.2.2 h.2.2.2.1
/-- One element in a block. -/
theorem el_one {α : Type} {enc : α → List Value} {k : Nat} (hk : ∀ x, (enc x).length = k) {w : World} {g : Nat} {t : TypeId} {x : α} (h : Bk w g t (enc x).toArray) : El enc k w (.slice (some ⟨g, 0, none⟩) 1 1) [x] := by
  refine Or.inr ⟨g, 0, 1, rfl, Nat.le_refl _, by simp, h.lt, fun j hj i u hu => ?_⟩
  obtain rfl : j = 0 := by simpa using hj
  rw [h.cell, Nat.zero_mul, Nat.zero_add]
  simpa using hu

set_option maxRecDepth 100000 in
set_option maxHeartbeats 4000000 in
theorem works_true (w : World) (h8 : 6 ≤ w.heap.size) (hg : Glob w) : Calls Tryz.prog 10 #[] w fun e w' => VEnd w (.bool true) e w' := by
  have HG := hd hg
  have H8 := hd h8
  clear hg h8
  go_enter Tryz.func10, Tryz.ntmps10
  go_wp2_with fail
  refine (parse_at _ _ exA_is _ (by decide) H8.out HG.out).mono ?_
  rintro e w1 ⟨vr, vq, rfl, hown, hb1⟩
  have HR1 := hd hown.elR
  have HQ1 := hd hown.elQ
  have HB1 := hd hb1
  obtain ⟨x1, n1, cap1, rfl⟩ := own_form hown.2.2.2.2.1
  obtain ⟨x2, n2, cap2, rfl⟩ := own_form hown.2.2.2.2.2
  clear hown hb1
  go_wp2_with fail
  have A1 := Bk.new w1 28 #[Value.slice x1 n1 cap1, Value.slice x2 n2 cap2]
  have K1 := below1 w1 (Obj.cells #[Value.slice x1 n1 cap1, Value.slice x2 n2 cap2] 28)
  generalize w1.alloc (Obj.cells #[Value.slice x1 n1 cap1, Value.slice x2 n2 cap2] 28) = w2 at *
  have HR2 := hd (HR1.out.keep K1)
  have HQ2 := hd (HQ1.out.keep K1)
  have HB2 := hd (below_below HB1.out K1)
  have P1 : Hid (w1.heap.size < w2.heap.size) := hd A1.lt
  have HA2 := hd A1
  generalize w1.heap.size = b1 at *
  clear A1 K1 HR1 HQ1 HB1
  refine (parse_at _ _ exB_is w2 (by decide) (Nat.le_trans H8.out HB2.out.size) (HG.out.keep HB2.out)).mono ?_
  rintro e w3 ⟨rfl, hb3⟩
  have HR3 := hd (HR2.out.keep hb3)
  have HQ3 := hd (HQ2.out.keep hb3)
  have HA3 := hd (HA2.out.keep hb3)
  have HB3 := hd (below_below HB2.out hb3)
  clear hb3 HR2 HQ2 HA2 HB2 P1
  go_wp2_with fail
  have K4 := below1 w3 (Obj.cells #[Value.slice none 0 0, Value.slice none 0 0] 28)
  generalize w3.alloc (Obj.cells #[Value.slice none 0 0, Value.slice none 0 0] 28) = w4 at *
  have HR4 := hd (HR3.out.keep K4)
  have HQ4 := hd (HQ3.out.keep K4)
  have HA4 := hd (HA3.out.keep K4)
  have HB4 := hd (below_below HB3.out K4)
  generalize w3.heap.size = b2 at *
  clear K4 HR3 HQ3 HA3 HB3
  refine (parse_at _ _ exC_is w4 (by decide) (Nat.le_trans H8.out HB4.out.size) (HG.out.keep HB4.out)).mono ?_
  rintro e w5 ⟨rfl, hb5⟩
  have HR5 := hd (HR4.out.keep hb5)
  have HQ5 := hd (HQ4.out.keep hb5)
  have HA5 := hd (HA4.out.keep hb5)
  have HB5 := hd (below_below HB4.out hb5)
  clear hb5 HR4 HQ4 HA4 HB4
  go_upto_region 5 with fail
  have r1 := ((Bk.new (w5.alloc (Obj.cells #[Value.slice none 0 0, Value.slice none 0 0] 28)) 37 #[Value.string ⟨#[117, 115, 101, 114, 46, 109, 97, 105, 108]⟩, Value.int IntKind.i64 3, Value.int IntKind.u32 1]).alloc (Obj.cells #[Value.string ⟨#[111, 112, 115]⟩, Value.int IntKind.i64 2, Value.int IntKind.u32 0, Value.int IntKind.i64 5, Value.int IntKind.i64 100] 39)).alloc (Obj.cells #[Value.slice (some ⟨w5.heap.size + 1, 0, none⟩) 1 1, Value.slice (some ⟨w5.heap.size + 1 + 1, 0, none⟩) 1 1] 28)
  have q1 := (Bk.new ((w5.alloc (Obj.cells #[Value.slice none 0 0, Value.slice none 0 0] 28)).alloc (Obj.cells #[Value.string ⟨#[117, 115, 101, 114, 46, 109, 97, 105, 108]⟩, Value.int IntKind.i64 3, Value.int IntKind.u32 1] 37)) 39 #[Value.string ⟨#[111, 112, 115]⟩, Value.int IntKind.i64 2, Value.int IntKind.u32 0, Value.int IntKind.i64 5, Value.int IntKind.i64 100]).alloc (Obj.cells #[Value.slice (some ⟨w5.heap.size + 1, 0, none⟩) 1 1, Value.slice (some ⟨w5.heap.size + 1 + 1, 0, none⟩) 1 1] 28)
  have p1 := Bk.new (((w5.alloc (Obj.cells #[Value.slice none 0 0, Value.slice none 0 0] 28)).alloc (Obj.cells #[Value.string ⟨#[117, 115, 101, 114, 46, 109, 97, 105, 108]⟩, Value.int IntKind.i64 3, Value.int IntKind.u32 1] 37)).alloc (Obj.cells #[Value.string ⟨#[111, 112, 115]⟩, Value.int IntKind.i64 2, Value.int IntKind.u32 0, Value.int IntKind.i64 5, Value.int IntKind.i64 100] 39)) 28 #[Value.slice (some ⟨w5.heap.size + 1, 0, none⟩) 1 1, Value.slice (some ⟨w5.heap.size + 1 + 1, 0, none⟩) 1 1]
  simp only [World.size_alloc] at r1 q1 p1
  have k6 : Below w5.heap.size w5 ((((w5.alloc (Obj.cells #[Value.slice none 0 0, Value.slice none 0 0] 28)).alloc (Obj.cells #[Value.string ⟨#[117, 115, 101, 114, 46, 109, 97, 105, 108]⟩, Value.int IntKind.i64 3, Value.int IntKind.u32 1] 37)).alloc (Obj.cells #[Value.string ⟨#[111, 112, 115]⟩, Value.int IntKind.i64 2, Value.int IntKind.u32 0, Value.int IntKind.i64 5, Value.int IntKind.i64 100] 39)).alloc (Obj.cells #[Value.slice (some ⟨w5.heap.size + 1, 0, none⟩) 1 1, Value.slice (some ⟨w5.heap.size + 1 + 1, 0, none⟩) 1 1] 28)) := (below2 w5 _ _).trans ((below2 _ _ _).mono (by simp only [World.size_alloc]; omega))
  have HP6 := hd p1
  have HR6 := hd (HR5.out.keep k6)
  have HQ6 := hd (HQ5.out.keep k6)
  have HA6 := hd (HA5.out.keep k6)
  have HB6 := hd (below_below HB5.out k6)
  have HR7 := hd (el_one (enc := encR) lenR (x := (⟨#[117, 115, 101, 114, 46, 109, 97, 105, 108]⟩, 3, 1)) r1)
  have HQ7 := hd (el_one (enc := encQ) lenQ (x := (⟨#[111, 112, 115]⟩, 2, 0, 5, 100)) q1)
  generalize (((w5.alloc (Obj.cells #[Value.slice none 0 0, Value.slice none 0 0] 28)).alloc (Obj.cells #[Value.string ⟨#[117, 115, 101, 114, 46, 109, 97, 105, 108]⟩, Value.int IntKind.i64 3, Value.int IntKind.u32 1] 37)).alloc (Obj.cells #[Value.string ⟨#[111, 112, 115]⟩, Value.int IntKind.i64 2, Value.int IntKind.u32 0, Value.int IntKind.i64 5, Value.int IntKind.i64 100] 39)).alloc (Obj.cells #[Value.slice (some ⟨w5.heap.size + 1, 0, none⟩) 1 1, Value.slice (some ⟨w5.heap.size + 1 + 1, 0, none⟩) 1 1] 28) = w6 at *
  generalize w5.heap.size = z at *
  clear r1 q1 p1 k6 HR5 HQ5 HA5 HB5
  have a1 := HA6.out.cell 0
  have a2 := HA6.out.cell 1
  have a3 := HP6.out.cell 0
  have a4 := HP6.out.cell 1
  simp at a1 a2 a3 a4
  go_wp2_with fail
  refine (rsame_pol HR6.out HQ6.out HR7.out HQ7.out).mono ?_
  rintro e w7 ⟨rfl, hb7⟩
  have e1 : sameP stA ([(⟨#[117, 115, 101, 114, 46, 109, 97, 105, 108]⟩, 3, 1)], [(⟨#[111, 112, 115]⟩, 2, 0, 5, 100)]) = true := (sameP_iff _ _).2 rfl
  have e2 : sameP (stA.1, stA.2) ([(⟨#[117, 115, 101, 114, 46, 109, 97, 105, 108]⟩, 3, 1)], [(⟨#[111, 112, 115]⟩, 2, 0, 5, 100)]) = true := e1
  simp only [e2]
  have HB7 := hd (below_below HB6.out hb7)
  clear a1 a2 a3 a4 e1 e2 hb7
  go_wp2_with fail
  go_ret
  exact VEnd.mk HB7.out

end Go.Proofs.YtcigbfjmnhogiabGreatDoor
