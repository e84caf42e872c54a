/- WaxKnown: walk. -/
import Derived.Test.YteefpbeglmnilaaDoorNt
namespace Go.Proofs.YteefpbeglmnilaaDoor.waxKnown
open Go.RowKit
set_option linter.unusedVariables false

set_option maxRecDepth 100000 in
set_option maxHeartbeats 1600000 in
theorem walk (W : World) (G : Glob W) :
    Calls Tryd.prog 7 #[] W fun e W' => e = .returned (.bool true) ∧ Below W.heap.size W W' := by
  have HG := hd G
  clear G
  have T1 := hd first_text
  have T2 := hd second_text
  have T3 := hd long_text
  have T4 := hd none_mac
  have RA1 : Hid (∀ w, Calls Tryd.prog 16 #[.string ⟨#[170]⟩, .int .i64 131] w fun e w' => e = .returned (.string ⟨(Lib.repeatL [170] 131).toArray⟩) ∧ Below w.heap.size w w') := hd (fun w => repeat_any ⟨#[170]⟩ 131 w (by decide) (by decide))
  have CV1 := hd (rep_conv 170 131 (by decide))
  have RA2 : Hid (∀ w, Calls Tryd.prog 16 #[.string ⟨#[11]⟩, .int .i64 20] w fun e w' => e = .returned (.string ⟨(Lib.repeatL [11] 20).toArray⟩) ∧ Below w.heap.size w w') := hd (fun w => repeat_any ⟨#[11]⟩ 20 w (by decide) (by decide))
  have CV2 := hd (rep_conv 11 20 (by decide))
  rw [show ((170 : UInt8).toNat : Int) = 170 from rfl] at CV1
  rw [show ((11 : UInt8).toNat : Int) = 11 from rfl] at CV2
  generalize Lib.repeatL [170] 131 = t1 at *
  generalize Lib.repeatL [11] 20 = t2 at *
  have BK1 : Hid (Byt (List.replicate 131 170)) := hd (byt_rep _ _ (by decide) (by decide))
  have BK2 : Hid (Byt (List.replicate 20 11)) := hd (byt_rep _ _ (by decide) (by decide))
  have LK1 : Hid ((List.replicate 131 (170 : Int)).length = 131) := hd (by rw [List.length_replicate])
  have LK2 : Hid ((List.replicate 20 (11 : Int)).length = 20) := hd (by rw [List.length_replicate])
  generalize List.replicate 131 (170 : Int) = k1 at *
  generalize List.replicate 20 (11 : Int) = k2 at *
  have kcv := fun (w : World) (C : Array Value) (n c : Nat) => Lib.run_convert_bytes_const (P := Tryd.prog) w 22 5 C n c und25 Tryd.underlying5
  have kcv2 := conv2
  go_enter Tryd.func7, Tryd.ntmps7
  go_wp2_with fail
  refine (RA1.out _).mono ?_
  rintro e w1 ⟨rfl, hk⟩
  have B1 := hd hk
  clear hk RA1
  obtain ⟨ck, w2, hr, hsl, hk⟩ := CV1.out w1
  have SK := hd hsl
  have B2 := hd (below_below B1.out hk)
  clear hsl hk B1 CV1
  generalize w1.heap.size = kb at *
  go_wp2_with fail
  clear hr
  refine (RA2.out _).mono ?_
  rintro e w3 ⟨rfl, hk⟩
  have SK3 := hd (SK.out.keep hk)
  have B3 := hd (below_below B2.out hk)
  clear hk RA2 SK B2
  obtain ⟨cj, w4, hr, hsl, hk⟩ := CV2.out w3
  have SJ := hd hsl
  have SK4 := hd (SK3.out.keep hk)
  have B4 := hd (below_below B3.out hk)
  clear hsl hk B3 SK3 CV2
  generalize w3.heap.size = jb at *
  go_wp2_with fail
  clear hr
  have s1 := sl_const w4 hi (by decide) 5 (8, 9) (by decide)
  have th := Th.one s1
  have bb := (((Below.refl w4.heap.size w4).alloc (Nat.le_refl _) (.cells (bs hi).toArray 5 (8, 9))).alloc (by simp) (.cells #[.slice (some ⟨w4.heap.size, 0, none⟩) hi.length hi.length] 22))
  simp only [World.size_alloc] at th
  have hc := wof_ok (SJ.out.keep bb) th (by rw [LK2.out]; decide) BK2.out (by decide) (by intro x hx; rw [List.mem_singleton.1 hx]; exact byt_of (by decide))
  refine Calls.mono (show Calls Tryd.prog 9 _ _ _ from hc) ?_
  rintro e w5 ⟨rfl, hk⟩
  have B5 := hd (below_below (below_below B4.out bb) hk)
  have SK5 := hd ((SK4.out.keep bb).keep hk)
  clear hc th s1 bb hk B4 SK4 SJ
  rw [flat1]
  go_wp2_with fail
  refine (hex_ok _ (mac_len _ _) (byt_mac _ _) w5 (HG.out.keep B5.out)).mono ?_
  rintro e w6 ⟨rfl, hk⟩
  have B6 := hd (below_below B5.out hk)
  have SK6 := hd (SK5.out.keep hk)
  clear hk B5 SK5
  rw [T1.out]
  clear T1
  go_wp2_with fail
  have s1 := sl_const w6 jefe (by decide) 5 (4, 5) (by decide)
  have s2 := sl_const (w6.alloc (.cells (bs jefe).toArray 5 (4, 5))) want (by decide) 5 (28, 29) (by decide)
  have th := Th.one s2
  have bb := ((((Below.refl w6.heap.size w6).alloc (Nat.le_refl _) (.cells (bs jefe).toArray 5 (4, 5))).alloc (by simp) (.cells (bs want).toArray 5 (28, 29))).alloc (by simp; omega) (.cells #[.slice (some ⟨(w6.alloc (.cells (bs jefe).toArray 5 (4, 5))).heap.size, 0, none⟩) want.length want.length] 22))
  have s1' := (s1.alloc (.cells (bs want).toArray 5 (28, 29))).alloc (.cells #[.slice (some ⟨(w6.alloc (.cells (bs jefe).toArray 5 (4, 5))).heap.size, 0, none⟩) want.length want.length] 22)
  simp only [World.size_alloc] at th s1' bb
  have hc := wof_ok s1' th (by decide) (byt_of (by decide)) (by decide) (by intro x hx; rw [List.mem_singleton.1 hx]; exact byt_of (by decide))
  refine Calls.mono (show Calls Tryd.prog 9 _ _ _ from hc) ?_
  rintro e w7 ⟨rfl, hk⟩
  have B7 := hd (below_below (below_below B6.out bb) hk)
  have SK7 := hd ((SK6.out.keep bb).keep hk)
  clear hc th s1 s2 s1' bb hk B6 SK6
  rw [flat1]
  go_wp2_with fail
  refine (hex_ok _ (mac_len _ _) (byt_mac _ _) w7 (HG.out.keep B7.out)).mono ?_
  rintro e w8 ⟨rfl, hk⟩
  have B8 := hd (below_below B7.out hk)
  have SK8 := hd (SK7.out.keep hk)
  clear hk B7 SK7
  rw [T2.out]
  clear T2
  go_wp2_with fail
  have s1 := sl_const w8 test (by decide) 5 (54, 55) (by decide)
  have th := Th.one s1
  have bb := (((Below.refl w8.heap.size w8).alloc (Nat.le_refl _) (.cells (bs test).toArray 5 (54, 55))).alloc (by simp) (.cells #[.slice (some ⟨w8.heap.size, 0, none⟩) test.length test.length] 22))
  simp only [World.size_alloc] at th
  have hc := wof_ok (SK8.out.keep bb) th (by rw [LK1.out]; decide) BK1.out (by decide) (by intro x hx; rw [List.mem_singleton.1 hx]; exact byt_of (by decide))
  refine Calls.mono (show Calls Tryd.prog 9 _ _ _ from hc) ?_
  rintro e w9 ⟨rfl, hk⟩
  have B9 := hd (below_below (below_below B8.out bb) hk)
  clear hc th s1 bb hk B8 SK8
  rw [flat1]
  go_wp2_with fail
  refine (hex_ok _ (mac_len _ _) (byt_mac _ _) w9 (HG.out.keep B9.out)).mono ?_
  rintro e w10 ⟨rfl, hk⟩
  have B10 := hd (below_below B9.out hk)
  clear hk B9
  rw [T3.out]
  clear T3
  go_wp2_with fail
  refine (wof_ok (l := []) (ms := []) (Or.inl ⟨rfl, _, _, rfl⟩) (Th.none _ _ _) (by decide) Byt.nil (by decide) (by intro x hx; cases hx)).mono ?_
  rintro e w11 ⟨rfl, hk⟩
  have B11 := hd (below_below B10.out hk)
  clear hk B10
  rw [List.flatten_nil]
  go_wp2_with fail
  refine (hex_ok _ (mac_len _ _) (byt_mac _ _) w11 (HG.out.keep B11.out)).mono ?_
  rintro e w12 ⟨rfl, hk⟩
  have B12 := hd (below_below B11.out hk)
  clear hk B11
  rw [T4.out]
  clear T4
  go_wp2_with fail
  refine (works_ok w12 (HG.out.keep B12.out)).mono ?_
  rintro e w13 ⟨rfl, hk⟩
  have B13 := hd (below_below B12.out hk)
  clear hk B12
  have SN := hd (same_ok (w := w13) (u := .slice none 0 0) (v := .slice none 0 0) (a := []) (b := []) (Or.inl ⟨rfl, _, _, rfl⟩) (Or.inl ⟨rfl, _, _, rfl⟩) Byt.nil Byt.nil (by decide))
  rw [decide_eq_true rfl] at SN
  go_wp2_with fail
  refine SN.out.mono ?_
  rintro e w14 ⟨rfl, rfl⟩
  go_wp2_with fail
  go_ret
  exact ⟨rfl, B13.out⟩
end Go.Proofs.YteefpbeglmnilaaDoor.waxKnown
