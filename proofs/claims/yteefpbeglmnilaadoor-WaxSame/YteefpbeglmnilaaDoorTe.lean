/- The digest of a knot; of bytes. -/
import Derived.Test.YteefpbeglmnilaaDoorAd
import Derived.Deep.WholeRow
namespace Go.Proofs.YteefpbeglmnilaaDoor
open Go.RowKit
set_option linter.unusedVariables false

theorem info49 : (Tryd.prog.info? 70).map (·.size) = some 138 := by kernel_rfl
theorem zc49 : Tryd.zeroCells70.size = 138 := by kernel_rfl
theorem kn_one (r : Sha.R) (K : List (BitVec 32)) (p : List Int) (s : Int) : (kn r K p s).toArray.all (·.oneCell') = true := all_oneCell_toArray (fun v hv => by
  unfold kn at hv
  rcases List.mem_cons.1 hv with rfl | hv
  · rfl
  rcases List.mem_append.1 hv with hv | hv
  · obtain ⟨_, _, rfl⟩ := List.mem_map.1 hv; rfl
  rcases List.mem_append.1 hv with hv | hv
  · obtain ⟨_, _, rfl⟩ := List.mem_map.1 hv; rfl
  rcases List.mem_append.1 hv with hv | hv
  · obtain ⟨_, _, rfl⟩ := List.mem_map.1 hv; rfl
  rw [List.mem_singleton.1 hv]; rfl)
theorem kc_len (l : List Int) : (kc l).length = 138 := kn_len _ _ _ _ rfl (Sha.pad_len _ (by rw [Sha.rest_len]; omega))

/-- A row that lies in a block of its own, as bytes to be added. -/
theorem Row.ap {w : World} {b g : Nat} {t : TypeId} {p : List Int} (h : Row w g t (bs p)) (hne : g ≠ b) (n : Nat) (hn : n ≤ p.length) (cap : Nat) (hc : n ≤ cap) (hcap : cap ≤ 140737488355328) : Ap b w (.slice (some ⟨g, 0, none⟩) n cap) (p.take n) := by
  have hlen : (p.take n).length = n := by rw [List.length_take]; omega
  by_cases h0 : n = 0
  · subst h0
    exact Or.inl ⟨rfl, _, _, rfl⟩
  · refine Or.inr ⟨g, 0, cap, by rw [hlen], by omega, by omega, by omega, hne, h.lt, fun i hi => ?_⟩
    rw [hlen] at hi
    rw [Nat.zero_add]
    refine h.get ?_
    rw [bs, List.getElem?_map, List.getElem?_eq_getElem (by omega), List.getD_eq_getElem?_getD, List.getElem?_take_of_lt hi, List.getElem?_eq_getElem (by omega)]
    rfl
theorem below_kp {w a c : World} {B g : Nat} (h : Below B w a) (k : Kp (fun k => k = g) a c) (hg : B ≤ g) (hB : B ≤ a.heap.size) : Below B w c := h.trans (k.below B hB (fun i hi e => by omega))

theorem byt_hi8 (n : Nat) : Byt (Sha.hi8 n) := fun x hx => by
  unfold Sha.hi8 at hx
  simp only [List.mem_cons, List.not_mem_nil, or_false] at hx
  rcases hx with rfl | rfl | rfl | rfl | rfl | rfl | rfl | rfl <;> omega

/-- How a digest is answered. -/
def DigEnd (w : World) (d : List Int) (e : Ending) (w' : World) : Prop := e = .returned (.agg (bs d).toArray) ∧ Below w.heap.size w w'

set_option maxRecDepth 100000 in
set_option maxHeartbeats 1000000 in
theorem tie_ok {b : Nat} {w : World} {l : List Int} (h : Row w b 70 (kc l)) (hl : l.length ≤ 70368744177664) (hb : Byt l) :
    Calls Tryd.prog 22 #[.pointer (some ⟨b, 0, none⟩)] w fun e w' => DigEnd w (Sha.dig l) e w' := by
  have H0 := hd h
  clear h
  go_enter Tryd.func22, Tryd.ntmps22
  go_wp2_with fail
  generalize hw1 : World.alloc w _ = w1
  have Z1 : Hid (w1.heap.size = w.heap.size + 1) := hd (by subst hw1; simp)
  have R1 : Hid (Row w1 w.heap.size 24 (bs (List.replicate 32 0))) := hd (by subst hw1; exact Row.new w 24 (bs (List.replicate 32 0)))
  have B1 : Hid (Below w.heap.size w w1) := hd (by subst hw1; exact (Below.refl _ _).alloc (Nat.le_refl _) _)
  have H1 : Hid (Row w1 b 70 (kc l)) := hd (H0.out.keep B1.out H0.out.lt)
  clear hw1
  refine (none_ok b w1 _ _ _ _ H1.out).mono ?_
  rintro e w2 ⟨rfl, rfl⟩
  have LK := hd (kc_len l)
  have OK : Hid ((kc l).toArray.all (·.oneCell') = true) := kn_one _ _ _ _
  have hst := run_storeCells_new (P := Tryd.prog) w2 70 Tryd.zeroCells70 (kc l).toArray (by rw [List.size_toArray, LK.out]; exact info49) (zc49.trans (by rw [List.size_toArray, LK.out])) OK.out
  rw [List.toList_toArray] at hst
  have hkl : (kc l).length = 138 := LK.out
  go_wp2_with (refine wpList_load_row rfl 70 _ rfl b rfl 70 (kc l).toArray (0, 0) _ H1.out Tryd.underlying70 rfl (by rw [List.size_toArray, LK.out]; exact info49) ?_)
  have A1 := Row.new w2 70 (kc l)
  have A2 := Row.new (w2.alloc (.cells (kc l).toArray 70)) 5 (bs [128])
  rw [World.size_alloc] at A2
  have W3 : Hid (Below w2.heap.size w2 ((w2.alloc (.cells (kc l).toArray 70)).alloc (.cells (bs [128]).toArray 5))) := ((Below.refl _ _).alloc (Nat.le_refl _) _).alloc (by simp) _
  have A3 := A1.alloc (.cells (bs [128]).toArray 5)
  have AP := A2.ap (b := w2.heap.size) (by omega) 1 (by decide) 1 (by decide) (by decide)
  refine (add_ok A3 AP (by omega) hb (fun x hx => by rw [List.mem_singleton.1 hx]; exact ⟨by decide, by decide⟩)).mono ?_
  clear A1 A2 A3 AP hst hkl LK OK
  rintro e w4 ⟨rfl, hr, hk⟩
  change Row w4 w2.heap.size 70 (kc (l ++ [128])) at hr
  have B4 : Hid (Below w2.heap.size w2 w4) := below_kp W3.out hk (Nat.le_refl _) W3.out.size
  have R4 := hd hr
  have c4 : ∀ o, (w4.alloc o).cell? ⟨w2.heap.size, 137, none⟩ = some (.int .i64 (((l ++ [128]).length : Nat) : Int)) := fun o => (hr.alloc o).get (kn_size _ Sha.K _ _ rfl (Sha.pad_len _ (by rw [Sha.rest_len]; omega)))
  have hl4 : (l ++ [128]).length = l.length + 1 := by simp
  rw [hl4] at c4
  clear hr hk W3
  have e1 : ((l.length + 1 : Nat) : Int).tmod 64 = (((l.length + 1) % 64 : Nat) : Int) := by rw [Int.tmod_eq_emod_of_nonneg (by omega)]; omega
  have e2 : IntKind.i64.wrap (120 - (((l.length + 1) % 64 : Nat) : Int)) = ((120 - (l.length + 1) % 64 : Nat) : Int) := by rw [IntKind.wrap_i64]; omega
  have e3 : ((120 - (l.length + 1) % 64 : Nat) : Int).tmod 64 = (((120 - (l.length + 1) % 64) % 64 : Nat) : Int) := by rw [Int.tmod_eq_emod_of_nonneg (by omega)]; omega
  have HW : Hid (Sha.whole l = l ++ [128] ++ List.replicate ((120 - (l.length + 1) % 64) % 64) 0 ++ Sha.hi8 (8 * l.length)) := rfl
  have hμ : (120 - (l.length + 1) % 64) % 64 < 64 := by omega
  generalize (120 - (l.length + 1) % 64) % 64 = μ at *
  generalize ((120 - (l.length + 1) % 64 : Nat) : Int) = ν at *
  generalize (((l.length + 1) % 64 : Nat) : Int) = ξ at *
  have g1 : (μ : Int) ≤ 64 := by omega
  have g2 : μ ≤ 64 := by omega
  generalize hlam : ((l.length + 1 : Nat) : Int) = lam at *
  clear hlam hl4
  go_wp2_with fail
  have A2 := Row.new w4 68 (bs (List.replicate 64 0))
  have W5 : Hid (Below w4.heap.size w4 (w4.alloc (.cells (bs (List.replicate 64 0)).toArray 68))) := (Below.refl _ _).alloc (Nat.le_refl _) _
  have A3 := R4.out.alloc (.cells (bs (List.replicate 64 0)).toArray 68)
  have AP := A2.ap (b := w2.heap.size) (by have := R4.out.lt; omega) μ (by rw [List.length_replicate]; omega) 64 (by omega) (by decide)
  rw [List.take_replicate, Nat.min_eq_left g2] at AP
  refine (add_ok A3 AP (by simp; omega) (hb.append (fun x hx => by rw [List.mem_singleton.1 hx]; exact ⟨by decide, by decide⟩)) (byt_zeros _)).mono ?_
  clear A2 A3 AP c4 e1 e2 e3 g1 g2
  rintro e w6 ⟨rfl, hr, hk⟩
  have B6 : Hid (Below w2.heap.size w2 w6) := below_kp (B4.out.trans (W5.out.mono B4.out.size)) hk (Nat.le_refl _) (Nat.le_trans B4.out.size W5.out.size)
  have R6 := hd hr
  have H6 : Hid (Row w6 b 70 (kc l)) := H1.out.keep B6.out H1.out.lt
  have c6 := H6.out.get (kn_size _ Sha.K _ _ rfl (Sha.pad_len _ (by rw [Sha.rest_len]; omega)))
  clear hr hk W5 B4 R4
  have e4 : IntKind.u64.wrap (l.length : Int) = (l.length : Int) := by rw [IntKind.wrap_u64]; omega
  have e5 : IntKind.u64.wrap (8 * (l.length : Int)) = ((8 * l.length : Nat) : Int) := by rw [IntKind.wrap_u64]; omega
  generalize hn8 : 8 * l.length = n8 at *
  generalize (l.length : Int) = lam at *
  go_wp2_with fail
  refine (highest_ok n8 w6).mono ?_
  rintro e w7 ⟨rfl, hk⟩
  have B7 : Hid (Below w2.heap.size w2 w7) := hd (below_below B6.out hk)
  have R7 : Hid (Row w7 w2.heap.size 70 (kc (l ++ [128] ++ List.replicate μ 0))) := hd (R6.out.keep hk R6.out.lt)
  clear hk R6 B6 c6 e4 e5
  have hz : (bs (Sha.hi8 n8)).length = 8 := rfl
  have hzl := hi8_len n8
  have hzb := byt_hi8 n8
  have hzo := bs_one (Sha.hi8 n8)
  generalize Sha.hi8 n8 = z at *
  have hst := run_storeCells_new (P := Tryd.prog) w7 74 (bs (List.replicate 8 0)).toArray (bs z).toArray (by rw [List.size_toArray, hz]; exact info55) (by rw [List.size_toArray, List.size_toArray, hz]; rfl) hzo
  rw [List.toList_toArray] at hst
  change Sem.run Tryd.prog (storeCells _ (bs z)) (w7.alloc (.cells #[.int .u8 0, .int .u8 0, .int .u8 0, .int .u8 0, .int .u8 0, .int .u8 0, .int .u8 0, .int .u8 0] 74)) = _ at hst
  go_wp2_with fail
  have A2 := Row.new w7 74 (bs z)
  have W8 : Hid (Below w7.heap.size w7 (w7.alloc (.cells (bs z).toArray 74))) := (Below.refl _ _).alloc (Nat.le_refl _) _
  have A3 := R7.out.alloc (.cells (bs z).toArray 74)
  have AP := A2.ap (b := w2.heap.size) (by have := R7.out.lt; omega) 8 (by omega) 8 (by omega) (by decide)
  rw [List.take_of_length_le (by omega)] at AP
  refine (add_ok A3 AP (by simp; omega) ((hb.append (fun x hx => by rw [List.mem_singleton.1 hx]; exact ⟨by decide, by decide⟩)).append (byt_zeros _)) hzb).mono ?_
  clear A2 A3 AP hst hz hzl hzb hzo
  rintro e w8 ⟨rfl, hr, hk⟩
  rw [← HW.out] at hr
  have B8 : Hid (Below w2.heap.size w2 w8) := below_kp (B7.out.trans (W8.out.mono B7.out.size)) hk (Nat.le_refl _) (Nat.le_trans B7.out.size W8.out.size)
  have R8 := hd hr
  clear hr hk W8 B7 R7
  go_wp2_with fail
  refine (bytes_ok w2.heap.size w8 _ _ _ _ R8.out).mono ?_
  rintro e w9 ⟨rfl, hk⟩
  have B9 : Hid (Below w.heap.size w w9) := hd (below_below B1.out (below_below B8.out hk))
  have R9 : Hid (Row w9 w.heap.size 24 (bs (List.replicate 32 0))) := hd ((R1.out.keep B8.out (by have := Z1.out; omega)).keep hk (Nat.lt_of_lt_of_le (by have := Z1.out; omega) B8.out.size))
  have HD : Hid (Sha.dig l = Sha.b32 (Sha.td (Sha.whole l))) := rfl
  clear hk R8 B8
  have LD := hd (b32_len (Sha.td (Sha.whole l)))
  have OD := hd (bs_one (Sha.b32 (Sha.td (Sha.whole l))))
  generalize Sha.b32 (Sha.td (Sha.whole l)) = d at *
  go_wp2_with (refine wpList_store_row rfl 24 _ _ rfl w.heap.size (bs d).toArray rfl rfl 24 _ R9.out (by rw [List.size_toArray, bs_len, LD.out]; exact info28) (by rw [List.size_toArray, List.size_toArray, bs_len, bs_len, LD.out]; rfl) OD.out ?_)
  refine bodyPost_ret (v := .agg (bs d).toArray) ?_ rfl ⟨by rw [HD.out], ?_⟩
  · exact results_cell_row (P := Tryd.prog) (fn := Tryd.f22) (p := 2) (ty := 24) (by kernel_rfl) _ _ w.heap.size 24 (bs d).toArray (0, 0) _ rfl (R9.out.put (us := bs d)) und28 rfl (by rw [List.size_toArray, bs_len, LD.out]; exact info28)
  · exact below_setRow B9.out _ _ (Nat.le_refl _)

end Go.Proofs.YteefpbeglmnilaaDoor
