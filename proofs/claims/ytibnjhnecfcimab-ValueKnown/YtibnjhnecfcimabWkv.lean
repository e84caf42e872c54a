/- The chapter's examples hold: works answers true. -/
import Derived.Test.YtibnjhnecfcimabIs
import Derived.Test.YtibnjhnecfcimabTkl
namespace Go.Proofs.Ytibnjhnecfcimab
open Go.RowKit
set_option linter.unusedVariables false

set_option maxRecDepth 100000 in
set_option maxHeartbeats 1000000 in
theorem none_ok (k n : Int) (s : ByteArray) (hok : okV (k, n, s) = false) (w : World) : Calls Try.prog 5 #[.agg #[.int .i64 k, .int .i64 n, .string s]] w fun e w' => VEnd w (.bool true) e w' := by
  have HO := hd hok
  clear hok
  go_enter Try.func5, Try.ntmps5
  go_wp2_with fail
  have V1 := Bk.new w 25 #[Value.int IntKind.i64 k, Value.int IntKind.i64 n, Value.string s]
  have NB := below1 w (Obj.cells #[Value.int IntKind.i64 k, Value.int IntKind.i64 n, Value.string s] 25)
  generalize w.alloc (Obj.cells #[Value.int IntKind.i64 k, Value.int IntKind.i64 n, Value.string s] 25) = w1 at *
  refine (vbytes_bad k n s w1 HO.out).mono ?_
  rintro e w2 ⟨rfl, hk⟩
  have V2 := hd (V1.keep hk)
  have B2 := hd (below_below NB hk)
  clear hk V1 NB
  have c0 := V2.out.cell 0
  have c1 := V2.out.cell 1
  have c2 := V2.out.cell 2
  simp at c0 c1 c2
  go_wp2_with fail
  refine (checkV_any k n s w2).mono ?_
  rintro e w3 ⟨rfl, hk⟩
  rw [HO.out]
  simp only [Bool.false_eq_true, if_false]
  have B3 := hd (below_below B2.out hk)
  clear hk c0 c1 c2
  go_wp2_with fail
  go_ret
  exact VEnd.mk B3.out

theorem El.kpS {α : Type} {enc : α → List Value} {k rb : Nat} {w w' : World} {v : Value} {xs : List α} (h : El enc k w v xs) (b : Kp (fun b => b = rb) w w') (hb : ∀ g off cap, v = .slice (some ⟨g, off, none⟩) xs.length cap → xs ≠ [] → g ≠ rb) : El enc k w' v xs := by
  by_cases hx : xs = []
  · subst hx
    obtain ⟨x, cap, rfl⟩ := h.form
    exact Or.inl ⟨rfl, x, cap, rfl⟩
  · rcases h with ⟨h, _⟩ | ⟨g, off, cap, h1, h2, h3, h4, h5⟩
    · exact absurd h hx
    · refine Or.inr ⟨g, off, cap, h1, h2, h3, Nat.lt_of_lt_of_le h4 b.size, fun j hj i u hu => ?_⟩
      rw [b.cell (p := ⟨g, off + j * k + i, none⟩) h4 (hb g off cap h1 hx)]
      exact h5 j hj i u hu

/-- The chapter's list. -/
def exL : List AttrD := [(⟨#[97]⟩, 1, 0, 3, 0, ⟨#[]⟩)]
theorem exL_ok : okAs exL = true := by decide +kernel
theorem exL_wf : ∀ a ∈ exL, WfA a := by
  intro a ha
  unfold exL at ha
  simp only [List.mem_cons, List.not_mem_nil, or_false] at ha
  subst ha
  exact ⟨by decide, by decide⟩
theorem exL_b : listB exL = [1, 1, 97, 1, 0, 3, 0] := by decide +kernel
theorem exL_t : takeAs [1, 1, 97, 1, 0, 3, 0] 0 = (exL, [], 0) := by
  have h := takeAs_back exL exL_ok exL_wf []
  rw [List.append_nil, exL_b] at h
  exact h
theorem v1B : valB (1, -1, ⟨#[]⟩) = [1, 1] := by decide +kernel
theorem v2B : valB (2, 0, ⟨#[97, 98]⟩) = [2, 2, 97, 98] := by decide +kernel
theorem v3B : valB (3, 1, ⟨#[]⟩) = [3, 1] := by decide +kernel
theorem v1O : okV (1, -1, ⟨#[]⟩) = true := by decide +kernel
theorem v2O : okV (2, 0, ⟨#[97, 98]⟩) = true := by decide +kernel
theorem v3O : okV (3, 1, ⟨#[]⟩) = true := by decide +kernel
theorem v4O : okV (3, 2, ⟨#[]⟩) = false := by decide +kernel
theorem v5O : okV (1, 0, ⟨#[120]⟩) = false := by decide +kernel
theorem v6O : okV (4, 0, ⟨#[]⟩) = false := by decide +kernel
theorem Bx.made (w : World) (cs : Array Value) (l : List Int) (hcs : cs = u8s l) (n : Nat) (hn : l.length = n) (hl : Byt l) (hb : l.length ≤ 140737488355328) : Bx (w.alloc (.cells cs 5)).heap.size (w.alloc (.cells cs 5)) (.slice (some ⟨w.heap.size, 0, none⟩) n n) l :=
  (built w l cs hcs n hn hl hb).bx
theorem is1 (w : World) : Calls Try.prog 32 #[.agg #[.int .i64 1, .int .i64 (-1), .string ⟨#[]⟩], .slice (some ⟨w.heap.size, 0, none⟩) 2 2] (w.alloc (.cells #[.int .u8 1, .int .u8 1] 5)) fun e w' => VEnd (w.alloc (.cells #[.int .u8 1, .int .u8 1] 5)) (.bool true) e w' :=
  is_ok (1, -1, ⟨#[]⟩) v1O (by rw [v1B]; exact Bx.made w _ [1, 1] rfl 2 rfl (byt_dec _ (by decide)) (by decide))
theorem is2 (w : World) : Calls Try.prog 32 #[.agg #[.int .i64 2, .int .i64 0, .string ⟨#[97, 98]⟩], .slice (some ⟨w.heap.size, 0, none⟩) 4 4] (w.alloc (.cells #[.int .u8 2, .int .u8 2, .int .u8 97, .int .u8 98] 5)) fun e w' => VEnd (w.alloc (.cells #[.int .u8 2, .int .u8 2, .int .u8 97, .int .u8 98] 5)) (.bool true) e w' :=
  is_ok (2, 0, ⟨#[97, 98]⟩) v2O (by rw [v2B]; exact Bx.made w _ [2, 2, 97, 98] rfl 4 rfl (byt_dec _ (by decide)) (by decide))
theorem is3 (w : World) : Calls Try.prog 32 #[.agg #[.int .i64 3, .int .i64 1, .string ⟨#[]⟩], .slice (some ⟨w.heap.size, 0, none⟩) 2 2] (w.alloc (.cells #[.int .u8 3, .int .u8 1] 5)) fun e w' => VEnd (w.alloc (.cells #[.int .u8 3, .int .u8 1] 5)) (.bool true) e w' :=
  is_ok (3, 1, ⟨#[]⟩) v3O (by rw [v3B]; exact Bx.made w _ [3, 1] rfl 2 rfl (byt_dec _ (by decide)) (by decide))
theorem El.one (w : World) (a : AttrD) : El encA 6 (w.alloc (.cells (encA a).toArray 32)) (.slice (some ⟨w.heap.size, 0, none⟩) 1 1) [a] := by
  refine Or.inr ⟨w.heap.size, 0, 1, rfl, Nat.le_refl _, by simp, by simp, fun j hj i u hu => ?_⟩
  obtain rfl : j = 0 := by simpa using hj
  rw [(Bk.new w 32 (encA a).toArray).cell (0 + 0 * 6 + i)]
  rw [List.getElem?_toArray, Nat.zero_mul, Nat.zero_add]
  exact hu

set_option maxRecDepth 100000 in
set_option maxHeartbeats 4000000 in
theorem works_true (w : World) : Calls Try.prog 12 #[] w fun e w' => VEnd w (.bool true) e w' := by
  go_enter Try.func12, Try.ntmps12
  go_wp2_with fail
  have E1 : El encA 6 (w.alloc (Obj.cells #[Value.string ⟨#[97]⟩, Value.int IntKind.i64 1, Value.int IntKind.u32 0, Value.int IntKind.i64 3, Value.int IntKind.i64 0, Value.string ⟨#[]⟩] 32)) (.slice (some ⟨w.heap.size, 0, none⟩) 1 1) exL := El.one w (⟨#[97]⟩, 1, 0, 3, 0, ⟨#[]⟩)
  have B1 := below1 w (Obj.cells #[Value.string ⟨#[97]⟩, Value.int IntKind.i64 1, Value.int IntKind.u32 0, Value.int IntKind.i64 3, Value.int IntKind.i64 0, Value.string ⟨#[]⟩] 32)
  have hs1 : (w.alloc (Obj.cells #[Value.string ⟨#[97]⟩, Value.int IntKind.i64 1, Value.int IntKind.u32 0, Value.int IntKind.i64 3, Value.int IntKind.i64 0, Value.string ⟨#[]⟩] 32)).heap.size = w.heap.size + 1 := by simp
  generalize w.alloc (Obj.cells #[Value.string ⟨#[97]⟩, Value.int IntKind.i64 1, Value.int IntKind.u32 0, Value.int IntKind.i64 3, Value.int IntKind.i64 0, Value.string ⟨#[]⟩] 32) = w1 at *
  have W2 := Bx.made w1 #[Value.int IntKind.u8 1, Value.int IntKind.u8 1, Value.int IntKind.u8 97, Value.int IntKind.u8 1, Value.int IntKind.u8 0, Value.int IntKind.u8 3, Value.int IntKind.u8 0] [1, 1, 97, 1, 0, 3, 0] rfl 7 rfl (byt_dec _ (by decide)) (by decide)
  have NB := below1 w1 (Obj.cells #[Value.int IntKind.u8 1, Value.int IntKind.u8 1, Value.int IntKind.u8 97, Value.int IntKind.u8 1, Value.int IntKind.u8 0, Value.int IntKind.u8 3, Value.int IntKind.u8 0] 5)
  have B2 := below_below B1 NB
  have E2 := E1.keep NB
  rw [hs1] at W2
  generalize w1.alloc (Obj.cells #[Value.int IntKind.u8 1, Value.int IntKind.u8 1, Value.int IntKind.u8 97, Value.int IntKind.u8 1, Value.int IntKind.u8 0, Value.int IntKind.u8 3, Value.int IntKind.u8 0] 5) = w2 at *
  clear NB E1 B1 hs1
  generalize hgw : w.heap.size = gw at *
  have HGW := hd hgw
  clear hgw
  have h7 := attrs_ok E2 exL_ok exL_wf
  rw [exL_b] at h7
  refine h7.mono ?_
  rintro e w3 ⟨a3, cap3, rfl, ho, hk⟩
  have X3 := hd ho.bs.bx
  have E3 := hd (E2.keep hk)
  have W3 := hd (W2.go hk)
  have B3 := hd (B2.trans (hk.mono (by rw [← HGW.out]; exact B2.size)))
  clear ho hk E2 W2 B2 h7
  go_wp2_with fail
  refine (New_bx W3.out).mono ?_
  rintro e w4 ⟨rb, rfl, hle, hr4, hk⟩
  have HB3s : gw ≤ w3.heap.size := by rw [← HGW.out]; exact B3.out.size
  have X4 := hd (X3.out.go hk)
  have E4 := hd (E3.out.keep hk)
  have W4 := hd (W3.out.go hk)
  have B4 := hd (B3.out.trans (hk.mono (by rw [← HGW.out]; exact B3.out.size)))
  have X4b := hd (X3.out.keep hk)
  have W4b := hd (W3.out.keep hk)
  have HE : Hid (∀ g off cap, (Value.slice (some ⟨gw, 0, none⟩) 1 1) = .slice (some ⟨g, off, none⟩) exL.length cap → exL ≠ [] → g < w3.heap.size) := hd (fun g off cap he hne => by
    injection he with he
    injection he with he
    injection he with he
    subst he
    have := B3.out.size
    rcases E3.out with ⟨h, _⟩ | ⟨g', off', cap', hv, _, _, hlt, _⟩
    · exact absurd h hne
    · injection hv with hv
      injection hv with hv
      injection hv with hv
      rw [hv]
      exact hlt)
  have R4 := hd hr4
  have HLE := hd hle
  clear hr4 hle hk E3 W3 X3 B3 X4 W4
  have HN : Hid (gw ≤ w3.heap.size) := hd HB3s
  generalize w3.heap.size = N at *
  go_wp2_with fail
  have h7 := TakeL_is R4.out HLE.out (byt_dec [1, 1, 97, 1, 0, 3, 0] (by decide))
  rw [exL_t] at h7
  refine h7.mono ?_
  rintro e w5 ⟨v, rfl, ho, hr5, hk⟩
  obtain ⟨x5, c5, hv⟩ := ho.form
  subst hv
  have M5 := hd ho.el
  have R5 := hd hr5
  have X5 := hd ((X4b.out.keepO hk HLE.out).upN (Nat.le_trans HLE.out (Nat.le_trans (Nat.le_of_lt R4.out.lt) hk.size)))
  have W5 := hd ((W4b.out.keepO hk HLE.out).upN (Nat.le_trans HLE.out (Nat.le_trans (Nat.le_of_lt R4.out.lt) hk.size)))
  have E5 := hd (E4.out.kpS hk (fun g off cap h1 h2 => by have := HE.out g off cap h1 h2; have := HLE.out; omega))
  have B5 := hd (B4.out.trans (hk.below gw (by rw [← HGW.out]; exact B4.out.size) (fun j hj e => by have h1 := HLE.out; have e2 : j = rb := e; have h3 := HN.out; omega)))
  clear ho hr5 hk h7 R4 X4b W4b E4 B4 HE
  change Hid (El encA 6 w5 (.slice x5 1 c5) exL) at M5
  go_wp2_with fail
  refine (is1 _).mono ?_
  rintro e w6 ⟨rfl, hk0⟩
  have hk := below_below (below1 w5 (Obj.cells #[Value.int IntKind.u8 1, Value.int IntKind.u8 1] 5)) hk0
  have M6 := hd (M5.out.keep hk)
  have R6 := hd (R5.out.keep hk)
  have X6 := hd (X5.out.go hk)
  have W6 := hd (W5.out.go hk)
  have E6 := hd (E5.out.keep hk)
  have B6 := hd (B5.out.trans (hk.mono (by rw [← HGW.out]; exact B5.out.size)))
  clear hk hk0 M5 R5 X5 W5 E5 B5
  go_wp2_with fail
  refine (is2 _).mono ?_
  rintro e w7 ⟨rfl, hk0⟩
  have hk := below_below (below1 w6 (Obj.cells #[Value.int IntKind.u8 2, Value.int IntKind.u8 2, Value.int IntKind.u8 97, Value.int IntKind.u8 98] 5)) hk0
  have M7 := hd (M6.out.keep hk)
  have R7 := hd (R6.out.keep hk)
  have X7 := hd (X6.out.go hk)
  have W7 := hd (W6.out.go hk)
  have E7 := hd (E6.out.keep hk)
  have B7 := hd (B6.out.trans (hk.mono (by rw [← HGW.out]; exact B6.out.size)))
  clear hk hk0 M6 R6 X6 W6 E6 B6
  go_wp2_with fail
  refine (is3 _).mono ?_
  rintro e w8 ⟨rfl, hk0⟩
  have hk := below_below (below1 w7 (Obj.cells #[Value.int IntKind.u8 3, Value.int IntKind.u8 1] 5)) hk0
  have M8 := hd (M7.out.keep hk)
  have R8 := hd (R7.out.keep hk)
  have X8 := hd (X7.out.go hk)
  have W8 := hd (W7.out.go hk)
  have E8 := hd (E7.out.keep hk)
  have B8 := hd (B7.out.trans (hk.mono (by rw [← HGW.out]; exact B7.out.size)))
  clear hk hk0 M7 R7 X7 W7 E7 B7
  go_wp2_with fail
  refine (none_ok 3 2 ⟨#[]⟩ v4O _).mono ?_
  rintro e w9 ⟨rfl, hk0⟩
  have hk := hk0
  have M9 := hd (M8.out.keep hk)
  have R9 := hd (R8.out.keep hk)
  have X9 := hd (X8.out.go hk)
  have W9 := hd (W8.out.go hk)
  have E9 := hd (E8.out.keep hk)
  have B9 := hd (B8.out.trans (hk.mono (by rw [← HGW.out]; exact B8.out.size)))
  clear hk hk0 M8 R8 X8 W8 E8 B8
  go_wp2_with fail
  refine (none_ok 1 0 ⟨#[120]⟩ v5O _).mono ?_
  rintro e w10 ⟨rfl, hk0⟩
  have hk := hk0
  have M10 := hd (M9.out.keep hk)
  have R10 := hd (R9.out.keep hk)
  have X10 := hd (X9.out.go hk)
  have W10 := hd (W9.out.go hk)
  have E10 := hd (E9.out.keep hk)
  have B10 := hd (B9.out.trans (hk.mono (by rw [← HGW.out]; exact B9.out.size)))
  clear hk hk0 M9 R9 X9 W9 E9 B9
  go_wp2_with fail
  refine (none_ok 4 0 ⟨#[]⟩ v6O _).mono ?_
  rintro e w11 ⟨rfl, hk0⟩
  have hk := hk0
  have M11 := hd (M10.out.keep hk)
  have R11 := hd (R10.out.keep hk)
  have X11 := hd (X10.out.go hk)
  have W11 := hd (W10.out.go hk)
  have E11 := hd (E10.out.keep hk)
  have B11 := hd (B10.out.trans (hk.mono (by rw [← HGW.out]; exact B10.out.size)))
  clear hk hk0 M10 R10 X10 W10 E10 B10
  go_wp2_with fail
  refine (eq_sx X11.out W11.out).mono ?_
  rintro e w12 ⟨rfl, m, rfl⟩
  have hk := below_drewN (Below.refl w11.heap.size w11) m
  have M12 := hd (M11.out.keep hk)
  have R12 := hd (R11.out.keep hk)
  have E12 := hd (E11.out.keep hk)
  have B12 := hd (B11.out.trans (hk.mono (by rw [← HGW.out]; exact B11.out.size)))
  clear hk M11 R11 X11 W11 E11 B11
  generalize w11.drewN m = w12 at *
  go_wp2_with fail
  have h7 := same_any E12.out M12.out
  rw [sameAs_self] at h7
  refine h7.mono ?_
  rintro e w13 ⟨rfl, hk⟩
  have R13 := hd (R12.out.keep hk)
  have B13 := hd (B12.out.trans (hk.mono (by rw [← HGW.out]; exact B12.out.size)))
  clear hk M12 R12 E12 B12 h7
  go_wp2_with fail
  refine (Err_any R13.out).mono ?_
  rintro e w14 ⟨rfl, rfl⟩
  go_wp2_with fail
  go_ret
  refine VEnd.mk ?_
  rw [HGW.out]
  exact B13.out

end Go.Proofs.Ytibnjhnecfcimab
