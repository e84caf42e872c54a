/- The first 64 primes. -/
import Derived.Test.YteefpbeglmnilaaDoorRx
import Derived.Test.YteefpbeglmnilaaDoorTi
import Derived.WalkMore
namespace Go.Proofs.YteefpbeglmnilaaDoor
open Go.RowKit
set_option linter.unusedVariables false

namespace Sha
/-- Is no prime of the list a divisor (those above the root aside)? -/
def chk : List Nat → Nat → Bool
  | [], _ => true
  | p :: t, x => if x < p * p then true else if x % p = 0 then false else chk t x
/-- The primes below k + 2. -/
def ps : Nat → List Nat
  | 0 => []
  | k + 1 => if chk (ps k) (k + 2) = true then ps k ++ [k + 2] else ps k
/-- The cells of the row of primes. -/
def pv (l : List Nat) : List Value := l.map (fun (p : Nat) => Value.int .u64 (p : Int)) ++ List.replicate (64 - l.length) (.int .u64 0)
end Sha

theorem ps_310 : (Sha.ps 310).length = 64 := by decide +kernel
theorem ps_lt : ∀ k : Fin 310, (Sha.ps k.val).length < 64 := by decide +kernel
theorem ps_in : ∀ k : Fin 311, ∀ p ∈ Sha.ps k.val, 1 < p ∧ p < 400 := by decide +kernel

theorem pv_len (l : List Nat) (h : l.length ≤ 64) : (Sha.pv l).length = 64 := by simp [Sha.pv]; omega
theorem pv_get (l : List Nat) (i : Nat) (hi : i < l.length) : (Sha.pv l)[i]? = some (.int .u64 ((l.getD i 0 : Nat) : Int)) := by
  rw [Sha.pv, List.getElem?_append_left (by simpa using hi), List.getElem?_map, List.getElem?_eq_getElem hi, List.getD_eq_getElem?_getD, List.getElem?_eq_getElem hi]
  rfl
theorem pv_set (l : List Nat) (x : Nat) (h : l.length < 64) : (Sha.pv l).set l.length (.int .u64 (x : Int)) = Sha.pv (l ++ [x]) := by
  rw [Sha.pv, List.set_append_right _ _ (by simp)]
  rw [show l.length - (l.map (fun (p : Nat) => Value.int .u64 (p : Int))).length = 0 by simp, show 64 - l.length = (63 - l.length) + 1 by omega, List.replicate_succ, List.set_cons_zero, Sha.pv, List.map_append, List.append_assoc, List.length_append]
  rw [show 64 - (l.length + [x].length) = 63 - l.length by simp only [List.length_singleton]; omega]
  rfl

theorem chk_drop (l : List Nat) (x j : Nat) (hj : j < l.length) : Sha.chk (l.drop j) x = if x < l.getD j 0 * l.getD j 0 then true else if x % l.getD j 0 = 0 then false else Sha.chk (l.drop (j + 1)) x := by
  rw [List.drop_eq_getElem_cons hj, Sha.chk, List.getD_eq_getElem?_getD, List.getElem?_eq_getElem hj]
  rfl

structure PrW (w wr : World) (l : List Nat) : Prop where
  bel : Below w.heap.size w wr
  res : Row wr w.heap.size 89 (Sha.pv [])
  out : Row wr (w.heap.size + 1) 89 (Sha.pv l)

theorem PrW.set {w wr : World} {l : List Nat} (h : PrW w wr l) (x : Nat) (hl : l.length < 64) : PrW w (wr.setCell ⟨w.heap.size + 1, l.length, none⟩ (.int .u64 (x : Int))) (l ++ [x]) :=
  ⟨below_setCell h.bel _ _ (Nat.le_succ _), h.res.other _ _ (by simp), by rw [← pv_set l x hl]; exact h.out.set _ _⟩

theorem und79 : Tryd.prog.underlying 89 = some (.array 64 76) := by kernel_rfl
theorem info79 : (Tryd.prog.info? 89).map (·.size) = some 64 := by kernel_rfl
theorem pv_one (l : List Nat) : (Sha.pv l).toArray.all (·.oneCell') = true := all_oneCell_toArray (fun v hv => by
  rcases List.mem_append.1 hv with hv | hv
  · obtain ⟨_, _, rfl⟩ := List.mem_map.1 hv
    rfl
  · rw [List.eq_of_mem_replicate hv]
    rfl)

set_option maxRecDepth 100000 in
set_option maxHeartbeats 1000000 in
theorem primes_ok (w : World) :
    Calls Tryd.prog 48 #[] w fun e w' => e = .returned (.agg (Sha.pv (Sha.ps 310)).toArray) ∧ Below w.heap.size w w' := by
  go_enter Tryd.func48, Tryd.ntmps48
  go_wp2_with fail
  go_step3
  go_wp2_with fail
  go_step3
  go_wp2_with fail
  generalize hw0 : World.alloc (World.alloc w _) _ = w0
  have S0 : Hid (PrW w w0 (Sha.ps 0)) := by
    subst hw0
    refine ⟨((Below.refl _ _).alloc (Nat.le_refl _) _).alloc (by simp) _, ?_, ?_⟩
    · exact (Row.new w 89 (Sha.pv [])).alloc _
    · have h := Row.new (World.alloc w (.cells (Sha.pv []).toArray 89)) 89 (Sha.pv [])
      simp only [World.size_alloc] at h
      exact h
  clear hw0
  go_loopw [2, 3] (fun n x wr => ∃ k : Nat, k ≤ 310 ∧ n = .int .i64 ((Sha.ps k).length : Int) ∧ x = .int .u64 ((k + 2 : Nat) : Int) ∧ PrW w wr (Sha.ps k)) (fun _ x _ => 312 - (intOf x).toNat)
  case atStart => exact ⟨0, Nat.zero_le _, rfl, rfl, S0.out⟩
  case round =>
    clear S0 w0
    obtain ⟨k, hk, rfl, rfl, hs⟩ := hrel
    have HS := hd hs
    clear hs
    by_cases hlt : k < 310
    · have hn := ps_lt ⟨k, hlt⟩
      have hin := ps_in ⟨k, by omega⟩
      simp only at hn hin
      have HP : Hid (Sha.ps (k + 1) = if Sha.chk (Sha.ps k) (k + 2) = true then Sha.ps k ++ [k + 2] else Sha.ps k) := rfl
      generalize Sha.ps k = l at *
      have HIN := hd hin
      clear hin
      have hx : k + 2 < 400 := by omega
      generalize hxx : k + 2 = x at *
      have HXK := hd hxx
      have HC : Hid (x + 1 = k + 1 + 2) := hd (by omega)
      clear hxx
      have HLN : Hid (l.length = l.length) := rfl
      generalize hnn : l.length = n at hn HLN
      have HN := hd hnn
      clear HLN hnn
      have hn' : (n : Int) < 64 := by omega
      have hn2 : (n : Int) ≤ 64 := by omega
      go_wp2_with fail
      go_loopw [13] (fun j wr' => ∃ i : Nat, i ≤ n ∧ j = .int .i64 (i : Int) ∧ Sha.chk (l.drop i) x = Sha.chk l x ∧ wr' = wr) (fun j _ => 64 - (intOf j).toNat)
      case atStart => exact ⟨0, Nat.zero_le _, rfl, rfl, rfl⟩
      case round =>
        obtain ⟨i, hi, rfl, hch, rfl⟩ := hrel
        by_cases hil : i < n
        · have c1 := HS.out.out.get (pv_get l i (by have := HN.out; omega))
          have hpin := HIN.out (l.getD i 0) (by rw [List.getD_eq_getElem?_getD, List.getElem?_eq_getElem (by have := HN.out; omega)]; exact List.getElem_mem _)
          have hcd := chk_drop l x i (by have := HN.out; omega)
          rw [hch] at hcd
          have HCD := hd hcd
          clear hcd
          generalize l.getD i 0 = p at *
          have hil' : (i : Int) < (n : Int) := by omega
          have hpp : p * p < 400 * 400 := Nat.mul_lt_mul'' hpin.2 hpin.2
          have e1 : IntKind.u64.wrap ((p : Int) * (p : Int)) = ((p * p : Nat) : Int) := by rw [← Int.natCast_mul, IntKind.wrap_u64]; omega
          have e2 : (x : Int).tmod (p : Int) = ((x % p : Nat) : Int) := by rw [Int.tmod_eq_emod_of_nonneg (by omega)]; exact (Int.natCast_emod x p).symm
          have hp0 : ¬ ((p : Int) = 0) := by omega
          have hp0' : ((p : Int) == 0) = false := by rw [beq_eq_false_iff_ne]; omega
          generalize p * p = q at *
          by_cases hb : x < q
          · have hb' : (x : Int) < (q : Int) := by omega
            have CT : Hid (Sha.chk l x = true) := hd (by rw [HCD.out, if_pos hb])
            clear HCD e2

            have PU : Hid (Sha.ps (k + 1) = l ++ [x]) := hd (by rw [HP.out, if_pos CT.out])
            have c9 := HS.out.out.cell n (.int .u64 0) (by rw [pv_len l (by have := HN.out; omega)]; omega)
            have f9 := HS.out.out.frozen n
            have HSET := hd (HS.out.set x (by have := HN.out; omega))
            rw [HN.out] at HSET
            generalize (Sha.pv l).getD n (.int .u64 0) = old at c9
            have s1 : IntKind.i64.wrap ((n : Int) + 1) = ((n + 1 : Nat) : Int) := by rw [IntKind.wrap_i64]; omega
            have s2 : IntKind.u64.wrap ((x : Int) + 1) = ((x + 1 : Nat) : Int) := by rw [IntKind.wrap_u64]; omega
            have LU : Hid ((l ++ [x]).length = n + 1) := hd (by rw [List.length_append, HN.out]; rfl)

            go_wp2_with fail
            go_roundw
            case rel => exact ⟨k + 1, by omega, by rw [PU.out, LU.out]; go_num, by rw [← HC.out]; go_num, by rw [PU.out]; exact HSET.out⟩
            case measure => have := HXK.out; simp only [intOf]; omega
          · have hb' : (q : Int) ≤ (x : Int) := by omega
            have hb2 : ¬ ((x : Int) < (q : Int)) := by omega
            by_cases hm : x % p = 0
            · have CT : Hid (Sha.chk l x = false) := hd (by rw [HCD.out, if_neg hb, if_pos hm])
              rw [hm] at e2
              have e2' : (x : Int).tmod (p : Int) = 0 := e2
              have PU : Hid (Sha.ps (k + 1) = l) := hd (by rw [HP.out, CT.out]; rfl)
              have s2 : IntKind.u64.wrap ((x : Int) + 1) = ((x + 1 : Nat) : Int) := by rw [IntKind.wrap_u64]; omega
              clear HCD e2 hm
              go_wp2_with fail
              go_roundw
              case rel => exact ⟨k + 1, by omega, by rw [PU.out, HN.out], by rw [← HC.out]; go_num, by rw [PU.out]; exact HS.out⟩
              case measure => have := HXK.out; simp only [intOf]; omega
            · have CT : Hid (Sha.chk (l.drop (i + 1)) x = Sha.chk l x) := hd (by rw [HCD.out, if_neg hb, if_neg hm])
              have hm' : ¬ (((x % p : Nat) : Int) = 0) := by omega
              have hm2 : (((x % p : Nat) : Int) == 0) = false := by rw [beq_eq_false_iff_ne]; omega
              clear HCD
              generalize x % p = r at *
              go_wp2_with fail
              go_roundw
              case rel => exact ⟨i + 1, by omega, by go_num, CT.out, trivial⟩
              case measure => simp [intOf]; omega
        · have hin : i = n := by omega
          subst hin
          have CT : Hid (Sha.chk l x = true) := hd (by rw [← hch, List.drop_eq_nil_of_le (by have := HN.out; omega)]; rfl)
          clear hch

          have PU : Hid (Sha.ps (k + 1) = l ++ [x]) := hd (by rw [HP.out, if_pos CT.out])
          have c9 := HS.out.out.cell i (.int .u64 0) (by rw [pv_len l (by have := HN.out; omega)]; omega)
          have f9 := HS.out.out.frozen i
          have HSET := hd (HS.out.set x (by have := HN.out; omega))
          rw [HN.out] at HSET
          generalize (Sha.pv l).getD i (.int .u64 0) = old at c9
          have s1 : IntKind.i64.wrap ((i : Int) + 1) = ((i + 1 : Nat) : Int) := by rw [IntKind.wrap_i64]; omega
          have s2 : IntKind.u64.wrap ((x : Int) + 1) = ((x + 1 : Nat) : Int) := by rw [IntKind.wrap_u64]; omega
          have LU : Hid ((l ++ [x]).length = i + 1) := hd (by rw [List.length_append, HN.out]; rfl)

          go_wp2_with fail
          go_roundw
          case rel => exact ⟨k + 1, by omega, by rw [PU.out, LU.out]; go_num, by rw [← HC.out]; go_num, by rw [PU.out]; exact HSET.out⟩
          case measure => have := HXK.out; simp only [intOf]; omega
    · have hk310 : k = 310 := by omega
      subst hk310
      have LZ := hd ps_310
      have h64 : (((Sha.ps 310).length : Nat) : Int) = 64 := by rw [LZ.out]; rfl
      generalize hz : Sha.ps 310 = z at *
      have HZ := hd hz
      clear hz
      generalize (z.length : Int) = n at *
      subst h64
      go_wp2_with (first
        | refine wpList_load_row rfl 89 _ rfl (w.heap.size + 1) rfl 89 (Sha.pv z).toArray (0, 0) _ HS.out.out und79 rfl (by rw [List.size_toArray, pv_len z (by rw [LZ.out]; omega)]; exact info79) ?_
        | refine wpList_store_row rfl 89 _ _ rfl w.heap.size (Sha.pv z).toArray rfl rfl 89 _ HS.out.res (by rw [List.size_toArray, pv_len z (by rw [LZ.out]; omega)]; exact info79) (by rw [List.size_toArray, List.size_toArray, pv_len z (by rw [LZ.out]; omega)]; rfl) (pv_one z) ?_)
      try rw [Exit.noGoto_ret]
      refine bodyPost_ret (v := .agg (Sha.pv z).toArray) ?_ rfl ⟨by rw [HZ.out], ?_⟩
      · exact results_cell_row (P := Tryd.prog) (fn := Tryd.f48) (p := 0) (ty := 89) (by kernel_rfl) _ _ w.heap.size 89 (Sha.pv z).toArray (0, 0) _ rfl (HS.out.res.put (us := Sha.pv z)) und79 rfl (by rw [List.size_toArray, pv_len z (by rw [LZ.out]; omega)]; exact info79)
      · exact below_setRow HS.out.bel _ _ (Nat.le_refl _)

end Go.Proofs.YteefpbeglmnilaaDoor
