/- The digest of bytes. -/
import Derived.Test.YteefpbeglmnilaaDoorTe
namespace Go.Proofs.YteefpbeglmnilaaDoor
open Go.RowKit
set_option linter.unusedVariables false

/-- The slice v holds the bytes m; or is empty, wherever it lies. -/
def Sl (w : World) (v : Value) (m : List Int) : Prop :=
  (m = [] ∧ ∃ x cap, v = .slice x 0 cap) ∨ ∃ g off cap, v = .slice (some ⟨g, off, none⟩) m.length cap ∧ 0 < m.length ∧ m.length ≤ cap ∧ m.length ≤ 140737488355328 ∧ g < w.heap.size ∧ ∀ i, i < m.length → w.cell? ⟨g, off + i, none⟩ = some (.int .u8 (m.getD i 0))

theorem Sl.ap {b : Nat} {w w' : World} {v : Value} {m : List Int} (h : Sl w v m) (k : Below w.heap.size w w') (hb : w.heap.size ≤ b) : Ap b w' v m := by
  rcases h with h | ⟨g, off, cap, h1, h2, h3, h4, h5, h6⟩
  · exact Or.inl h
  · refine Or.inr ⟨g, off, cap, h1, h2, h3, h4, by omega, Nat.lt_of_lt_of_le h5 k.size, fun i hi => ?_⟩
    rw [(kpB k (fun _ => False)).cell (p := ⟨g, off + i, none⟩) h5 (fun h => h)]
    exact h6 i hi
theorem Sl.keep {w w' : World} {v : Value} {m : List Int} (h : Sl w v m) (k : Below w.heap.size w w') : Sl w' v m := by
  rcases h with h | ⟨g, off, cap, h1, h2, h3, h4, h5, h6⟩
  · exact Or.inl h
  · refine Or.inr ⟨g, off, cap, h1, h2, h3, h4, Nat.lt_of_lt_of_le h5 k.size, fun i hi => ?_⟩
    rw [(kpB k (fun _ => False)).cell (p := ⟨g, off + i, none⟩) h5 (fun h => h)]
    exact h6 i hi

set_option maxRecDepth 100000 in
set_option maxHeartbeats 1000000 in
theorem of_ok {w : World} {v : Value} {l : List Int} (hv : Sl w v l) (hl : l.length ≤ 70368744177664) (hb : Byt l) :
    Calls Tryd.prog 14 #[v] w fun e w' => DigEnd w (Sha.dig l) e w' := by
  have HV := hd hv
  clear hv
  go_enter Tryd.func14, Tryd.ntmps14
  go_wp2_with fail
  generalize hw1 : World.alloc w _ = w1
  have R1 : Hid (Row w1 w.heap.size 24 (bs (List.replicate 32 0))) := hd (by subst hw1; exact Row.new w 24 (bs (List.replicate 32 0)))
  have B1 : Hid (Below w.heap.size w w1) := hd (by subst hw1; exact (Below.refl _ _).alloc (Nat.le_refl _) _)
  clear hw1
  refine (new_ok w1).mono ?_
  rintro e w2 ⟨kb, rfl, hkb, hr, hk⟩
  have B2 := hd hk
  have K2 := hd hr
  have KB := hd hkb
  clear hr hk hkb
  go_wp2_with fail
  have AP := HV.out.ap (b := kb) (below_below B1.out B2.out) (Nat.le_trans B1.out.size KB.out)
  refine (add_ok (l := []) K2.out AP (by simp) Byt.nil hb).mono ?_
  clear AP
  rintro e w3 ⟨rfl, hr, hk⟩
  rw [List.nil_append] at hr
  have K3 := hd hr
  have R3 : Hid (Row w3 w.heap.size 24 (bs (List.replicate 32 0))) := hd ((R1.out.keep B2.out R1.out.lt).keep (hk.below w1.heap.size B2.out.size (fun i hi e => by have := KB.out; omega)) R1.out.lt)
  have B3 : Hid (Below w.heap.size w w3) := hd (below_kp (below_below B1.out B2.out) hk (Nat.le_trans B1.out.size KB.out) (Nat.le_trans B1.out.size B2.out.size))
  clear hr hk R1 B1 B2 K2
  go_wp2_with fail
  refine (tie_ok K3.out hl hb).mono ?_
  rintro e w4 ⟨rfl, hk⟩
  have R4 : Hid (Row w4 w.heap.size 24 (bs (List.replicate 32 0))) := hd (R3.out.keep hk R3.out.lt)
  have B4 : Hid (Below w.heap.size w w4) := hd (below_below B3.out hk)
  clear hk R3 B3 K3
  have LD : Hid ((Sha.dig l).length = 32) := b32_len _
  have OD := hd (bs_one (Sha.dig l))
  generalize hdd : Sha.dig l = d at *
  have HD := hd hdd
  clear hdd
  go_wp2_with (refine wpList_store_row rfl 24 _ _ rfl w.heap.size (bs d).toArray rfl rfl 24 _ R4.out (by rw [List.size_toArray, bs_len, LD.out]; exact info28) (by rw [List.size_toArray, List.size_toArray, bs_len, bs_len, LD.out]; rfl) OD.out ?_)
  refine bodyPost_ret (v := .agg (bs d).toArray) ?_ rfl ⟨by rw [HD.out], ?_⟩
  · exact results_cell_row (P := Tryd.prog) (fn := Tryd.f14) (p := 2) (ty := 24) (by kernel_rfl) _ _ w.heap.size 24 (bs d).toArray (0, 0) _ rfl (R4.out.put (us := bs d)) und28 rfl (by rw [List.size_toArray, bs_len, LD.out]; exact info28)
  · exact below_setRow B4.out _ _ (Nat.le_refl _)

end Go.Proofs.YteefpbeglmnilaaDoor
