/- WaxKeys: walk. -/
import Derived.Test.YteefpbeglmnilaaDoorWt
namespace Go.Proofs.YteefpbeglmnilaaDoor
open Go.RowKit
set_option linter.unusedVariables false

namespace waxKeys
set_option maxRecDepth 100000 in
set_option maxHeartbeats 1600000 in
theorem walk0 (ka : Option Addr) (klen kcap m : Nat) (lk : List Int) (ba : Option Addr) (blen bcap n : Nat) (lb : List Int) (zeros : Int) (W : World)
    (hm : (klen ≤ 500 ∧ m = klen) ∨ (500 < klen ∧ m = 500)) (hn : (blen ≤ 500 ∧ n = blen) ∨ (500 < blen ∧ n = 500)) (hkc : klen ≤ kcap) (hbc : blen ≤ bcap)
    (hlk : lk.length = m) (hlb : lb.length = n) (hk : Sl W (.slice ka m kcap) lk) (hb : Sl W (.slice ba n bcap) lb) (bk : Byt lk) (bb : Byt lb)
    (hz : -9223372036854775808 ≤ zeros ∧ zeros ≤ 9223372036854775807) (G : Glob W) :
    Calls Tryd.prog 4 #[.slice ka klen kcap, .slice ba blen bcap, .int .i64 zeros] W fun e W' => TrueEnd W e W' := by
  have hmin1 := min500 klen m hm
  have hmin2 := min500 blen n hn
  have g1 : (m : Int) ≤ (kcap : Int) := by omega
  have g2 : m ≤ kcap := by omega
  have g3 : (n : Int) ≤ (bcap : Int) := by omega
  have g4 : n ≤ bcap := by omega
  have HM5 : Hid (m ≤ 500 ∧ n ≤ 500) := hd (by omega)
  have HK := hd hk
  have HB := hd hb
  have HG := hd G
  have HLK := hd hlk
  have HLB := hd hlb
  have HZ := hd hz
  clear hm hn hkc hbc hlk hlb hk hb G hz
  go_enter Tryd.func4, Tryd.ntmps4
  go_wp2_with fail
  refine (works_ok W HG.out).mono ?_
  rintro e w1 ⟨rfl, hk⟩
  have B1 := hd hk
  clear hk
  go_wp2_with fail
  go_region
  have B2 : Hid (Below W.heap.size W w1.drew) := hd B1.out.drew
  clear B1
  generalize w1.drew = w2 at *
  go_wp2_with fail
  have T2 := Th.one (HB.out.keep B2.out)
  have C2 : Below w2.heap.size w2 (w2.alloc (.cells #[.slice ba n bcap] 22)) := (Below.refl _ _).alloc (Nat.le_refl _) _
  refine (wof_ok ((HK.out.keep B2.out).keep C2) T2 (by rw [HLK.out]; have := HM5.out; omega) bk (by simp [HLB.out]; have := HM5.out; omega) (by intro x hx; rw [List.mem_singleton.1 hx]; exact bb)).mono ?_
  rintro e w3 ⟨rfl, hk⟩
  have B3 := hd (below_below (below_below B2.out C2) hk)
  have e0 : List.flatten [lb] = lb := by simp
  rw [e0]
  clear hk B2 C2 T2 e0
  have LD := hd (mac_len lk lb)
  have OD := hd (bs_one (Sha.mac lk lb))
  have MZ := hd (fun z (h : lk.length + z ≤ 64) => mac_zeros lk lb z h)
  have MD := hd (fun (h : 64 < lk.length) => mac_dig lk lb h)
  generalize Sha.mac lk lb = d at *
  have Q0 := Row.new w3 24 (bs (List.replicate 32 0))
  have Q0h := hd Q0
  have W4 : Below w3.heap.size w3 ((w3.alloc (.cells (bs (List.replicate 32 0)).toArray 24)).setRow w3.heap.size (bs d).toArray) := below_setRow ((Below.refl _ _).alloc (Nat.le_refl _) _) _ _ (Nat.le_refl _)
  have S4 : Hid (Was W w3.heap.size d ((w3.alloc (.cells (bs (List.replicate 32 0)).toArray 24)).setRow w3.heap.size (bs d).toArray)) := hd ⟨below_below B3.out W4, Q0.put (us := bs d)⟩
  clear Q0 W4 B3
  by_cases h64 : 64 < m
  · have c1 : (64 : Int) < (m : Int) := by omega
    go_wp2_with (refine wpList_store_row rfl 24 _ _ rfl w3.heap.size (bs d).toArray rfl rfl 24 _ Q0h.out (by rw [List.size_toArray, bs_len, LD.out]; exact info28) (by simp only [List.size_toArray, bs_len, LD.out, List.length_replicate]) OD.out ?_)
    change Calls Tryd.prog 14 _ ((w3.alloc (.cells (bs (List.replicate 32 0)).toArray 24)).setRow w3.heap.size (bs d).toArray) _
    clear Q0h
    generalize (w3.alloc (.cells (bs (List.replicate 32 0)).toArray 24)).setRow w3.heap.size (bs d).toArray = w4 at *
    generalize w3.heap.size = wb at *
    refine (of_ok (HK.out.keep S4.out.bel) (by rw [HLK.out]; have := HM5.out; omega) bk).mono ?_
    rintro e w5 ⟨rfl, hk⟩
    have S5 := hd (S4.out.step hk)
    clear hk S4
    have LF := hd (dig_len lk)
    have OF := hd (bs_one (Sha.dig lk))
    have BF := hd (byt_dig lk)
    have ME := hd (MD.out (by rw [HLK.out]; exact h64))
    generalize Sha.dig lk = f at *
    have Q0 := Row.new w5 24 (bs (List.replicate 32 0))
    have Q0h := hd Q0
    have W6 : Below w5.heap.size w5 ((w5.alloc (.cells (bs (List.replicate 32 0)).toArray 24)).setRow w5.heap.size (bs f).toArray) := below_setRow ((Below.refl _ _).alloc (Nat.le_refl _) _) _ _ (Nat.le_refl _)
    have S6 := hd (S5.out.step W6)
    have Q1 := hd (Q0.put (us := bs f))
    clear Q0 W6 S5
    go_wp2_with (refine wpList_store_row rfl 24 _ _ rfl w5.heap.size (bs f).toArray rfl rfl 24 _ Q0h.out (by rw [List.size_toArray, bs_len, LF.out]; exact info28) (by simp only [List.size_toArray, bs_len, LF.out, List.length_replicate]) OF.out ?_)
    clear Q0h
    change Code.wp _ _ _ _ ((w5.alloc (.cells (bs (List.replicate 32 0)).toArray 24)).setRow w5.heap.size (bs f).toArray)
    generalize (w5.alloc (.cells (bs (List.replicate 32 0)).toArray 24)).setRow w5.heap.size (bs f).toArray = w6 at *
    generalize w5.heap.size = fb at *
    have u24 := und28
    have i24 : (Tryd.prog.info? 24).map (·.size) = some (bs d).length := by rw [bs_len, LD.out]; exact info28
    have K7 := hd ((Q1.out.sl (by rw [LF.out]; decide) 32 (by rw [LF.out]; decide) (by decide)).alloc (.cells #[.slice ba n bcap] 22)).drew
    rw [LF.out] at K7
    have T7 := hd (Th.one (HB.out.keep S6.out.bel)).drew
    have S7 := hd (S6.out.alloc (.cells #[.slice ba n bcap] 22)).drew
    have eq := eq28 d LD.out
    go_region_held3 (fun W' => W'.rangeAt wb 0 (bs d) ∧ Was W wb d W') (first | exact Was.both (by first | exact S6.out.drew | exact S6.out | exact S7.out | exact S8.out | exact S8.out.drew)) (first
      | (go_at_call 9; refine (wof_ok (l := f) (ms := [lb]) K7.out T7.out (by rw [LF.out]; decide) BF.out (by simp [HLB.out]; have := HM5.out; omega) (by intro x hx; rw [List.mem_singleton.1 hx]; exact bb)).mono ?_; rintro e w7 ⟨rfl, hk7⟩; have S8 := hd (S7.out.step hk7); clear hk7; rw [show List.flatten [lb] = lb by simp, ME.out]))
    go_wp2_with fail
    go_ret
    exact ⟨rfl, S8.out.bel⟩
  · have c1 : ¬ (64 : Int) < (m : Int) := by omega
    have e1 : IntKind.i64.wrap (65 - (m : Int)) = ((65 - m : Nat) : Int) := by rw [IntKind.wrap_i64]; omega
    have BR := hd (fun w => bring_any zeros ((65 - m : Nat) : Int) w HZ.out.1 HZ.out.2 (by omega) (by omega))
    obtain ⟨z, hz⟩ : ∃ z : Nat, zeros % ((65 - m : Nat) : Int) = (z : Int) := ⟨(zeros % ((65 - m : Nat) : Int)).toNat, by have := Int.emod_nonneg zeros (b := ((65 - m : Nat) : Int)) (by omega); omega⟩
    have hzb : z < 65 - m := by have := Int.emod_lt_of_pos zeros (b := ((65 - m : Nat) : Int)) (by omega); omega
    rw [hz] at BR
    have HZB : Hid (m + z ≤ 64) := hd (by omega)
    have ME := hd (MZ.out z (by rw [HLK.out]; exact HZB.out))
    clear hz hzb h64
    generalize ((65 - m : Nat) : Int) = q at *
    go_wp2_with (refine wpList_store_row rfl 24 _ _ rfl w3.heap.size (bs d).toArray rfl rfl 24 _ Q0h.out (by rw [List.size_toArray, bs_len, LD.out]; exact info28) (by simp only [List.size_toArray, bs_len, LD.out, List.length_replicate]) OD.out ?_)
    change Code.wp _ _ _ _ ((w3.alloc (.cells (bs (List.replicate 32 0)).toArray 24)).setRow w3.heap.size (bs d).toArray)
    clear Q0h
    generalize (w3.alloc (.cells (bs (List.replicate 32 0)).toArray 24)).setRow w3.heap.size (bs d).toArray = w4 at *
    generalize w3.heap.size = wb at *
    have u24 := und28
    have i24 : (Tryd.prog.info? 24).map (·.size) = some (bs d).length := by rw [bs_len, LD.out]; exact info28
    have S5 := S4.out.drew
    have TR0 := hd ((Row.new w4 22 [.slice ba n bcap]).drew)
    have eq := eq28 d LD.out
    have CO := hd (fun wr (h : Was W wb d wr) => cs_copy h HK.out (by rw [HLK.out]; have := HM5.out; omega))
    have AZ := hd (fun v wr (h : Cs W wb d lk v wr) => cs_zeros h z (by rw [HLK.out]; have := HM5.out; have := HZB.out; omega))
    rw [HLK.out] at CO AZ
    have WO := hd (fun wr v t (hv : Sl wr v (lk ++ List.replicate z 0)) (ht : Th wr t [lb]) => wof_ok hv ht (by rw [List.length_append, List.length_replicate, HLK.out]; have := HM5.out; have := HZB.out; omega) (bk.append (byt_zeros z)) (by simp [HLB.out]; have := HM5.out; omega) (by intro x hx; rw [List.mem_singleton.1 hx]; exact bb))
    rw [show List.flatten [lb] = lb by simp, ME.out] at WO
    go_region_held3 (fun W' => W'.rangeAt wb 0 (bs d) ∧ Was W wb d W') (exact Was.both (by first | assumption | exact Was.alloc (by assumption) _ | exact Was.drew (by assumption) | exact Was.drew (Was.alloc S4.out _))) (first
      | (go_at_call 8; refine (CO.out _ (by first | assumption | exact Was.drew (Was.alloc S4.out _))).mono ?_; rintro e wc ⟨x, c, rfl, hcs, hwas, hrows⟩; have CS1 := hd hcs; have HW1 := hd hrows; clear hcs hrows; try (have TR := hd (HW1.out _ _ _ TR0.out)))
      | (go_at_call 15; refine (BR.out _).mono ?_; rintro e wq ⟨rfl, rfl⟩)
      | (refine step_append_ex rfl _ _ 22 3 rfl ?_; obtain ⟨x', c', wz, hr, hsl, hwz, hrw⟩ := AZ.out _ _ CS1.out; refine ⟨_, wz, hr, ?_⟩; have SL := hd hsl; try (have TR2 := hd (hrw _ _ TR.out)); clear hr hsl hrw)
      | (refine step_append_ex rfl _ _ 22 3 rfl ?_; obtain ⟨x', c', wz, hr, hsl, hwz, hrw⟩ := AZ.out _ _ (CS1.out.alloc (.cells #[.slice ba n bcap] 22)); refine ⟨_, wz, hr, ?_⟩; have SL := hd hsl; have TR2 := hd (hrw _ _ (Row.new _ 22 [.slice ba n bcap])); clear hr hsl hrw)
      | (go_at_call 9; refine (WO.out _ _ _ (by first | exact SL.out | exact SL.out.alloc _) (by first | exact th_kept TR2.out HB.out hwz.bel | exact Th.one (HB.out.keep hwz.bel))).mono ?_; rintro e wm ⟨rfl, hkm⟩; have SM : Was W wb d wm := by first | exact hwz.step hkm | exact (hwz.alloc _).step hkm))
    all_goals (go_wp2_with fail; go_ret; exact ⟨rfl, SM.bel⟩)
end waxKeys
end Go.Proofs.YteefpbeglmnilaaDoor
