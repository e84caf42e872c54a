/- A knot that begins with a key to which a byte was added. -/
import Derived.Test.YteefpbeglmnilaaDoorWm
namespace Go.Proofs.YteefpbeglmnilaaDoor
open Go.RowKit
set_option linter.unusedVariables false

/-- The first k bytes are mixed. -/
def Sha.mixed (y : Int) (z : List Int) (k : Nat) : List Int := Sha.mix y (z.take k) ++ z.drop k
theorem mixed_zero (y : Int) (z : List Int) : Sha.mixed y z 0 = z := rfl
theorem mixed_all (y : Int) (z : List Int) : Sha.mixed y z z.length = Sha.mix y z := by
  unfold Sha.mixed; rw [List.take_length, List.drop_length, List.append_nil]
theorem mixed_len (y : Int) (z : List Int) (k : Nat) (h : k ≤ z.length) : (Sha.mixed y z k).length = z.length := by
  unfold Sha.mixed; rw [List.length_append, mix_len, List.length_take, List.length_drop]; omega
theorem mixed_at (y : Int) (z : List Int) (k : Nat) (h : k < z.length) : (bs (Sha.mixed y z k))[k]? = some (.int .u8 (z.getD k 0)) := by
  unfold Sha.mixed bs
  rw [List.getElem?_map, List.getElem?_append_right (by rw [mix_len, List.length_take]; omega), mix_len, List.length_take, List.getElem?_drop, Nat.min_eq_left (by omega), Nat.sub_self, Nat.add_zero, List.getD_eq_getElem?_getD, List.getElem?_eq_getElem h]
  rfl
theorem mixed_set (y : Int) (z : List Int) (k : Nat) (h : k < z.length) : (bs (Sha.mixed y z k)).set k (.int .u8 (bits .xor .u8 (z.getD k 0) y)) = bs (Sha.mixed y z (k + 1)) := by
  have e1 : z.drop k = z[k] :: z.drop (k + 1) := List.drop_eq_getElem_cons h
  have e2 : z.take (k + 1) = z.take k ++ [z[k]] := List.take_succ_eq_append_getElem h
  have hg : z.getD k 0 = z[k] := by rw [List.getD_eq_getElem?_getD, List.getElem?_eq_getElem h]; rfl
  unfold Sha.mixed
  rw [hg, e1, e2]
  unfold Sha.mix bs
  simp only [List.map_append, List.map_cons, List.map_nil]
  rw [List.set_append_right _ _ (by simp; omega)]
  simp only [List.length_map, List.length_take, Nat.min_eq_left (Nat.le_of_lt h), Nat.sub_self, List.set_cons_zero, List.append_assoc, List.cons_append, List.nil_append]

/-- How a knot that is begun is answered. -/
def BegEnd (w : World) (l : List Int) (e : Ending) (w' : World) : Prop := ∃ b, e = .returned (.pointer (some ⟨b, 0, none⟩)) ∧ w.heap.size ≤ b ∧ Row w' b 70 (kc l) ∧ Below w.heap.size w w'

set_option maxRecDepth 100000 in
set_option maxHeartbeats 1000000 in
theorem begun_ok (y : Int) (hy : 0 ≤ y ∧ y ≤ 255) (box : Nat) (z : List Int) (w : World) (hz : z.length = 64) (hb : Byt z) (h : Row w box 39 (bs z)) :
    Calls Tryd.prog 19 #[.int .u8 y, .pointer (some ⟨box, 0, none⟩)] w fun e w' => BegEnd w (Sha.mix y z) e w' := by
  have H := hd h
  have LZ := hd hz
  have OZ := hd (bs_one z)
  have BZ := hd (byt_mix y z hy hb)
  clear h hz hb
  have R0 := Row.new w 39 (bs (List.replicate 64 0))
  have R1 : Hid (Row ((w.alloc (.cells (bs (List.replicate 64 0)).toArray 39)).setRow w.heap.size (bs z).toArray) w.heap.size 39 (bs (Sha.mixed y z 0))) := hd (R0.put (us := bs z))
  have B1 : Hid (Below w.heap.size w ((w.alloc (.cells (bs (List.replicate 64 0)).toArray 39)).setRow w.heap.size (bs z).toArray)) := hd (below_setRow ((Below.refl _ _).alloc (Nat.le_refl _) _) _ _ (Nat.le_refl _))
  have R0h := hd R0
  clear R0
  go_enter Tryd.func19, Tryd.ntmps19
  go_wp2_with (first
    | refine wpList_load_row rfl 39 _ rfl box rfl 39 (bs z).toArray (0, 0) _ H.out und39 rfl (by rw [List.size_toArray, bs_len, LZ.out]; exact info39) ?_
    | refine wpList_store_row rfl 39 _ _ rfl w.heap.size (bs z).toArray rfl rfl 39 _ R0h.out (by rw [List.size_toArray, bs_len, LZ.out]; exact info39) (by simp only [List.size_toArray, bs_len, LZ.out, List.length_replicate]) OZ.out ?_)
  change Code.wp _ _ _ _ ((w.alloc (.cells (bs (List.replicate 64 0)).toArray 39)).setRow w.heap.size (bs z).toArray)
  generalize (w.alloc (.cells (bs (List.replicate 64 0)).toArray 39)).setRow w.heap.size (bs z).toArray = w1 at *
  go_loopw [8] (fun i wr => ∃ k : Nat, k ≤ 64 ∧ i = .int .i64 (k : Int) ∧ Row wr w.heap.size 39 (bs (Sha.mixed y z k)) ∧ Below w.heap.size w wr) (fun i _ => 64 - (intOf i).toNat)
  case atStart => exact ⟨0, Nat.zero_le _, rfl, R1.out, B1.out⟩
  case round =>
    clear R1 B1 w1
    obtain ⟨k, hk, rfl, hr, hbel⟩ := hrel
    have HR := hd hr
    have HB := hd hbel
    clear hr hbel
    by_cases hlt : k < 64
    · have hlt' : (k : Int) < 64 := by omega
      have HE := hd (mixed_set y z k (by rw [LZ.out]; exact hlt))
      have c1 := HR.out.get (mixed_at y z k (by rw [LZ.out]; exact hlt))
      have f1 := HR.out.frozen k
      generalize z.getD k 0 = x at *
      go_wp2_with fail
      go_roundw
      case rel => exact ⟨k + 1, by omega, by go_num, by rw [← HE.out]; exact HR.out.set _ _, below_setCell HB.out _ _ (Nat.le_refl _)⟩
      case measure => simp [intOf]; omega
    · have hk8 : k = 64 := by omega
      subst hk8
      have e := mixed_all y z
      rw [LZ.out] at e
      rw [e] at HR
      have LX : Hid ((Sha.mix y z).length = 64) := hd (by rw [mix_len, LZ.out])
      generalize hx : Sha.mix y z = x at *
      have HX := hd hx
      clear hx e
      go_wp2_with fail
      refine (new_ok wr).mono ?_
      rintro e w2 ⟨kb, rfl, hkb, hr, hk⟩
      have B2 := hd hk
      have K2 := hd hr
      have KB := hd hkb
      have R2 := hd (HR.out.keep hk HR.out.lt)
      clear hr hk hkb
      go_wp2_with fail
      have AP := R2.out.ap (b := kb) (by have := HR.out.lt; have := KB.out; omega) 64 (by rw [LX.out]; decide) 64 (by decide) (by decide)
      rw [List.take_of_length_le (by rw [LX.out]; decide)] at AP
      refine (add_ok (l := []) K2.out AP (by simp) Byt.nil BZ.out).mono ?_
      clear AP
      rintro e w3 ⟨rfl, hr, hk⟩
      rw [List.nil_append] at hr
      have K3 := hd hr
      have B3 : Hid (Below w.heap.size w w3) := hd (below_kp (HB.out.trans (B2.out.mono HB.out.size)) hk (Nat.le_trans HB.out.size KB.out) (Nat.le_trans HB.out.size B2.out.size))
      clear hr hk B2 K2 R2
      go_wp2_with fail
      go_ret
      exact ⟨kb, rfl, Nat.le_trans HB.out.size KB.out, by rw [HX.out]; exact K3.out, B3.out⟩
end Go.Proofs.YteefpbeglmnilaaDoor
