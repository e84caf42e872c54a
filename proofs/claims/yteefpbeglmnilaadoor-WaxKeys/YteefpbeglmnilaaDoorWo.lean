/- The MAC of things under a key. -/
import Derived.Test.YteefpbeglmnilaaDoorWb
namespace Go.Proofs.YteefpbeglmnilaaDoor
open Go.RowKit
set_option linter.unusedVariables false

/-- The slice v holds slices that hold the bytes ms, one each; or is empty, wherever it lies. -/
def Th (w : World) (v : Value) (ms : List (List Int)) : Prop :=
  (ms = [] ∧ ∃ x cap, v = .slice x 0 cap) ∨ ∃ g off cap, v = .slice (some ⟨g, off, none⟩) ms.length cap ∧ ms.length ≤ cap ∧ ms.length ≤ 140737488355328 ∧ g < w.heap.size ∧ ∀ i, i < ms.length → ∃ u, w.cell? ⟨g, off + i, none⟩ = some u ∧ Sl w u (ms.getD i [])

theorem Th.form {w : World} {v : Value} {ms : List (List Int)} (h : Th w v ms) : ∃ x cap, v = .slice x ms.length cap := by
  rcases h with ⟨rfl, x, cap, rfl⟩ | ⟨g, off, cap, rfl, _⟩
  · exact ⟨x, cap, rfl⟩
  · exact ⟨_, _, rfl⟩
theorem Th.keep {w w' : World} {v : Value} {ms : List (List Int)} (h : Th w v ms) (k : Below w.heap.size w w') : Th w' v ms := by
  rcases h with h | ⟨g, off, cap, h1, h2, h3, h4, h5⟩
  · exact Or.inl h
  · refine Or.inr ⟨g, off, cap, h1, h2, h3, Nat.lt_of_lt_of_le h4 k.size, fun i hi => ?_⟩
    obtain ⟨u, hu, hs⟩ := h5 i hi
    refine ⟨u, ?_, hs.keep k⟩
    rw [(kpB k (fun _ => False)).cell (p := ⟨g, off + i, none⟩) h4 (fun h => h)]
    exact hu

theorem flat_succ (ms : List (List Int)) (k : Nat) (h : k < ms.length) : (ms.take (k + 1)).flatten = (ms.take k).flatten ++ ms.getD k [] := by
  rw [List.take_succ_eq_append_getElem h, List.flatten_append, List.getD_eq_getElem?_getD, List.getElem?_eq_getElem h]
  simp
theorem flat_le (ms : List (List Int)) (k : Nat) : (ms.take k).flatten.length ≤ ms.flatten.length := by
  have h : ms.flatten = (ms.take k).flatten ++ (ms.drop k).flatten := by rw [← List.flatten_append, List.take_append_drop]
  rw [h, List.length_append]; omega
theorem byt_flat (ms : List (List Int)) (h : ∀ m ∈ ms, Byt m) : Byt ms.flatten := fun x hx => by
  obtain ⟨m, hm, hx⟩ := List.mem_flatten.1 hx
  exact h m hm x hx

/-- A call of Of: its result's row, and the key made whole in its box. -/
structure OS (w wr : World) (box : Nat) (z : List Int) : Prop where
  bel : Below w.heap.size w wr
  res : Row wr w.heap.size 24 (bs (List.replicate 32 0))
  bx : Row wr box 39 (bs z)
  nb : w.heap.size < box
theorem OS.step {w wr w' : World} {box : Nat} {z : List Int} (h : OS w wr box z) (k : Below wr.heap.size wr w') : OS w w' box z :=
  ⟨below_below h.bel k, h.res.keep k h.res.lt, h.bx.keep k h.bx.lt, h.nb⟩
theorem OS.kp {w wr w' : World} {box b : Nat} {z : List Int} (h : OS w wr box z) (k : Kp (fun i => i = b) wr w') (hb : box < b) : OS w w' box z :=
  ⟨below_kp h.bel k (by have := h.nb; omega) h.bel.size, h.res.keep (k.below (box + 1) h.bx.lt (fun i hi e => by omega)) (by have := h.nb; omega), h.bx.keep (k.below (box + 1) h.bx.lt (fun i hi e => by omega)) (by omega), h.nb⟩

set_option maxRecDepth 100000 in
set_option maxHeartbeats 1000000 in
theorem wof_ok {w : World} {v t : Value} {l : List Int} {ms : List (List Int)} (hv : Sl w v l) (ht : Th w t ms) (hl : l.length ≤ 70368744177664) (hb : Byt l) (hm : ms.flatten.length ≤ 70368744177000) (hbm : ∀ m ∈ ms, Byt m) :
    Calls Tryd.prog 9 #[v, t] w fun e w' => DigEnd w (Sha.mac l ms.flatten) e w' := by
  obtain ⟨tx, tc, rfl⟩ := ht.form
  have HV := hd hv
  have HT := hd ht
  have HM := hd hbm
  clear hv ht hbm
  have HLn : ∃ n, ms.length = n := ⟨_, rfl⟩
  obtain ⟨n, hn⟩ := HLn
  rw [hn] at HT ⊢
  have HN := hd hn
  clear hn
  have HMac : Hid (Sha.mac l ms.flatten = Sha.dig (Sha.mix 92 (Sha.key64 l) ++ Sha.dig (Sha.mix 54 (Sha.key64 l) ++ ms.flatten))) := rfl
  go_enter Tryd.func9, Tryd.ntmps9
  go_wp2_with fail
  generalize hw1 : World.alloc w _ = w1
  have R1 : Hid (Row w1 w.heap.size 24 (bs (List.replicate 32 0))) := hd (by subst hw1; exact Row.new w 24 (bs (List.replicate 32 0)))
  have B1 : Hid (Below w.heap.size w w1) := hd (by subst hw1; exact (Below.refl _ _).alloc (Nat.le_refl _) _)
  clear hw1
  refine (made_ok (HV.out.keep B1.out) hl hb).mono ?_
  rintro e w2 ⟨rfl, hk⟩
  have LZ := hd (key64_len l)
  have OZ := hd (bs_one (Sha.key64 l))
  have BZ := hd (byt_key64 l hb)
  generalize hz : Sha.key64 l = z at *
  have HZ := hd hz
  clear hz
  have R2 : Hid (Row w2 w.heap.size 24 (bs (List.replicate 32 0))) := hd (R1.out.keep hk R1.out.lt)
  have B2 : Hid (Below w.heap.size w w2) := hd (below_below B1.out hk)
  clear hk R1 B1
  have Q0 := Row.new w2 39 (bs (List.replicate 64 0))
  have Q1 := Q0.put (us := bs z)
  have Q0h := hd Q0
  have W3 : Below w2.heap.size w2 ((w2.alloc (.cells (bs (List.replicate 64 0)).toArray 39)).setRow w2.heap.size (bs z).toArray) := below_setRow ((Below.refl _ _).alloc (Nat.le_refl _) _) _ _ (Nat.le_refl _)
  have S3 : Hid (OS w ((w2.alloc (.cells (bs (List.replicate 64 0)).toArray 39)).setRow w2.heap.size (bs z).toArray) w2.heap.size z) := hd ⟨below_below B2.out W3, R2.out.keep W3 R2.out.lt, Q1, R2.out.lt⟩
  clear Q0 Q1 W3 R2 B2
  go_wp2_with (refine wpList_store_row rfl 39 _ _ rfl w2.heap.size (bs z).toArray rfl rfl 39 _ Q0h.out (by rw [List.size_toArray, bs_len, LZ.out]; exact info39) (by simp only [List.size_toArray, bs_len, LZ.out, List.length_replicate]) OZ.out ?_)
  clear Q0h
  change Calls Tryd.prog 19 _ ((w2.alloc (.cells (bs (List.replicate 64 0)).toArray 39)).setRow w2.heap.size (bs z).toArray) _
  generalize (w2.alloc (.cells (bs (List.replicate 64 0)).toArray 39)).setRow w2.heap.size (bs z).toArray = w3 at *
  generalize w2.heap.size = box at *
  refine (begun_ok 54 (by decide) box z w3 LZ.out BZ.out S3.out.bx).mono ?_
  rintro e w4 ⟨kb, rfl, hkb, hr, hk⟩
  have LI : Hid ((Sha.mix 54 z).length = 64) := hd (by rw [mix_len, LZ.out])
  have BI := hd (byt_mix 54 z (by decide) BZ.out)
  generalize hi : Sha.mix 54 z = mi at *
  have HI := hd hi
  clear hi
  have KB : Hid (box < kb) := hd (Nat.lt_of_lt_of_le S3.out.bx.lt hkb)
  have S4 := hd (S3.out.step hk)
  have K4 : Hid (Row w4 kb 70 (kc (mi ++ (ms.take 0).flatten))) := hd (by rw [List.take_zero, List.flatten_nil, List.append_nil]; exact hr)
  clear hr hk hkb S3 w3 w2
  go_wp2_with fail
  go_loopw [19] (fun i wr => ∃ k : Nat, k ≤ n ∧ i = .int .i64 (k : Int) ∧ Row wr kb 70 (kc (mi ++ (ms.take k).flatten)) ∧ OS w wr box z) (fun i _ => n - (intOf i).toNat)
  case atStart => exact ⟨0, Nat.zero_le _, rfl, K4.out, S4.out⟩
  case round =>
    clear K4 S4 w4
    obtain ⟨k, hk, rfl, hr, hs⟩ := hrel
    have HR := hd hr
    have HS := hd hs
    clear hr hs
    by_cases hlt : k < n
    · have hlt' : (k : Int) < (n : Int) := by omega
      rcases HT.out with ⟨h0, _⟩ | ⟨g, off, cap, hv1, hc, hcap, hg, hcell⟩
      · have := HN.out; rw [h0] at this; simp at this; omega
      rw [HN.out] at hv1 hc hcap
      injection hv1 with hv1 _ hv3
      subst hv1 hv3
      obtain ⟨u, hu, hsl⟩ := hcell k (by rw [HN.out]; exact hlt)
      have cu : wr.cell? ⟨g, off + k, none⟩ = some u := by rw [(kpB HS.out.bel (fun _ => False)).cell (p := ⟨g, off + k, none⟩) hg (fun h => h)]; exact hu
      have AP := hd (hsl.ap (b := kb) HS.out.bel (by have := HS.out.nb; have := KB.out; omega))
      have HF := hd (flat_succ ms k (by rw [HN.out]; exact hlt))
      have HBk : Hid (Byt (ms.getD k [])) := hd (by
        have hk' : k < ms.length := by rw [HN.out]; exact hlt
        rw [List.getD_eq_getElem?_getD, List.getElem?_eq_getElem hk']
        exact HM.out _ (List.getElem_mem hk'))
      clear hsl hu hcell
      go_wp2_with fail
      refine (add_ok HR.out AP.out (by rw [List.length_append, LI.out]; have := flat_le ms k; omega) (BI.out.append (byt_flat _ (fun m hm => HM.out m (List.mem_of_mem_take hm)))) HBk.out).mono ?_
      rintro e w5 ⟨rfl, hr, hk5⟩
      have S5 := hd (HS.out.kp hk5 KB.out)
      rw [List.append_assoc, ← HF.out] at hr
      have R5 := hd hr
      clear hr hk5
      go_wp2_with fail
      go_roundw
      case rel => exact ⟨k + 1, by omega, by go_num, R5.out, S5.out⟩
      case measure => simp [intOf]; omega
    · have hkn : k = n := by omega
      subst hkn
      have hnl : ¬ (k : Int) < (k : Int) := by omega
      rw [List.take_of_length_le (by rw [HN.out]; exact Nat.le_refl _)] at HR
      go_wp2_with fail
      refine (tie_ok HR.out (by rw [List.length_append, LI.out]; omega) (BI.out.append (byt_flat _ HM.out))).mono ?_
      rintro e w5 ⟨rfl, hk5⟩
      have LD := hd (dig_len (mi ++ ms.flatten))
      have OD := hd (bs_one (Sha.dig (mi ++ ms.flatten)))
      have BD := hd (byt_dig (mi ++ ms.flatten))
      generalize hdd : Sha.dig (mi ++ ms.flatten) = d at *
      have HD := hd hdd
      have S5 := hd (HS.out.step hk5)
      clear hdd hk5 HS HR
      have Q0 := Row.new w5 24 (bs (List.replicate 32 0))
      have Q1 := hd (Q0.put (us := bs d))
      have Q0h := hd Q0
      have W6 : Below w5.heap.size w5 ((w5.alloc (.cells (bs (List.replicate 32 0)).toArray 24)).setRow w5.heap.size (bs d).toArray) := below_setRow ((Below.refl _ _).alloc (Nat.le_refl _) _) _ _ (Nat.le_refl _)
      have S6 := hd (S5.out.step W6)
      have NB : Hid (box < w5.heap.size) := hd S5.out.bx.lt
      clear Q0 W6 S5
      go_wp2_with (refine wpList_store_row rfl 24 _ _ rfl w5.heap.size (bs d).toArray rfl rfl 24 _ Q0h.out (by rw [List.size_toArray, bs_len, LD.out]; exact info28) (by simp only [List.size_toArray, bs_len, LD.out, List.length_replicate]) OD.out ?_)
      clear Q0h
      change Calls Tryd.prog 19 _ ((w5.alloc (.cells (bs (List.replicate 32 0)).toArray 24)).setRow w5.heap.size (bs d).toArray) _
      generalize (w5.alloc (.cells (bs (List.replicate 32 0)).toArray 24)).setRow w5.heap.size (bs d).toArray = w6 at *
      generalize w5.heap.size = dg at *
      refine (begun_ok 92 (by decide) box z w6 LZ.out BZ.out S6.out.bx).mono ?_
      rintro e w7 ⟨kc2, rfl, hkb, hr, hk7⟩
      have LO : Hid ((Sha.mix 92 z).length = 64) := hd (by rw [mix_len, LZ.out])
      have BO := hd (byt_mix 92 z (by decide) BZ.out)
      generalize ho : Sha.mix 92 z = mo at *
      have HO := hd ho
      clear ho
      have KC : Hid (box < kc2) := hd (Nat.lt_of_lt_of_le S6.out.bx.lt hkb)
      have KD : Hid (dg ≠ kc2) := hd (by have := Q1.out.lt; omega)
      have S7 := hd (S6.out.step hk7)
      have D7 := hd (Q1.out.keep hk7 Q1.out.lt)
      have K7 := hd hr
      clear hr hk7 hkb S6 Q1
      go_wp2_with fail
      have AP := D7.out.ap (b := kc2) KD.out 32 (by rw [LD.out]; decide) 32 (by decide) (by decide)
      rw [List.take_of_length_le (by rw [LD.out]; decide)] at AP
      refine (add_ok K7.out AP (by rw [LO.out]; decide) BO.out BD.out).mono ?_
      clear AP
      rintro e w8 ⟨rfl, hr, hk8⟩
      have S8 := hd (S7.out.kp hk8 KC.out)
      have K8 := hd hr
      clear hr hk8 S7 D7 K7
      go_wp2_with fail
      refine (tie_ok K8.out (by rw [List.length_append, LO.out, LD.out]; decide) (BO.out.append BD.out)).mono ?_
      rintro e w9 ⟨rfl, hk9⟩
      have S9 := hd (S8.out.step hk9)
      have LF := hd (dig_len (mo ++ d))
      have OF := hd (bs_one (Sha.dig (mo ++ d)))
      generalize hff : Sha.dig (mo ++ d) = f at *
      have HFF := hd hff
      clear hff hk9 S8 K8
      go_wp2_with (refine wpList_store_row rfl 24 _ _ rfl w.heap.size (bs f).toArray rfl rfl 24 _ S9.out.res (by rw [List.size_toArray, bs_len, LF.out]; exact info28) (by simp only [List.size_toArray, bs_len, LF.out, List.length_replicate]) OF.out ?_)
      refine bodyPost_ret (v := .agg (bs f).toArray) ?_ rfl ⟨?_, ?_⟩
      · exact results_cell_row (P := Tryd.prog) (fn := Tryd.f9) (p := 4) (ty := 24) (by kernel_rfl) _ _ w.heap.size 24 (bs f).toArray (0, 0) _ rfl (S9.out.res.put (us := bs f)) und28 rfl (by rw [List.size_toArray, bs_len, LF.out]; exact info28)
      · rw [HMac.out]
      · exact below_setRow S9.out.bel _ _ (Nat.le_refl _)
end Go.Proofs.YteefpbeglmnilaaDoor
