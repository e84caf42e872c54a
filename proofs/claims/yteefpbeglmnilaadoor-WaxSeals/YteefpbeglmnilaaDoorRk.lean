/- The MAC, as the document's answer makes it. -/
import Derived.Test.YteefpbeglmnilaaDoorRj
namespace Go.Proofs.YteefpbeglmnilaaDoor
open Go.RowKit
set_option linter.unusedVariables false

set_option maxRecDepth 100000 in
set_option maxHeartbeats 1600000 in
theorem rmac_ok {w : World} {v vb : Value} {l b : List Int} (hv : Sl w v l) (hvb : Sl w vb b) (hl : l.length ≤ 1000) (hlb : b.length ≤ 1000) (hb : Byt l) (bb : Byt b) :
    Calls Tryd.prog 10 #[v, vb] w fun e w' => DigEnd w (Sha.mac l b) e w' := by
  have HVB := hd hvb
  have HLn : ∃ n, l.length = n := ⟨_, rfl⟩
  obtain ⟨n, hn⟩ := HLn
  have HN := hd hn
  have HLBn : ∃ n, b.length = n := ⟨_, rfl⟩
  obtain ⟨nb, hnb⟩ := HLBn
  have HLB := hd hnb
  rw [hn] at hl
  rw [hnb] at hlb
  clear hvb hnb
  have HMac : Hid (Sha.mac l b = Sha.dig (Sha.mix 92 (Sha.key64 l) ++ Sha.dig (Sha.mix 54 (Sha.key64 l) ++ b))) := rfl
  have BZ := hd (byt_key64 l hb)
  have KL0 : Hid (Sha.pad (if 64 < l.length then Sha.dig l else l) = Sha.key64 l) := rfl
  generalize Sha.key64 l = z at *
  have N0 : Hid (OfW w (w.alloc (.cells (bs (List.replicate 32 0)).toArray 24)) (.slice none 0 0) 0 []) := ⟨(Below.refl _ _).alloc (Nat.le_refl _) _, Row.new w 24 _, World.ownsRow_nil _ _ _ _, rfl, Byt.nil⟩
  obtain ⟨v1, w1, r1, o1⟩ := N0.out.app (hv.keep ((Below.refl _ _).alloc (Nat.le_refl _) _)) hb (by rw [hn]; omega)
  rw [hn, Nat.zero_add, List.nil_append] at o1
  obtain ⟨x1, c1, rfl⟩ := o1.form
  have HR0 := hd r1
  have O0 := hd o1
  clear r1 o1 N0 hv
  by_cases h64 : 64 < n
  · have c64 : (64 : Int) < (n : Int) := by omega
    have KL : Hid (Sha.pad (Sha.dig l) = z) := hd (by have := KL0.out; rw [HN.out, if_pos h64] at this; exact this)
    clear KL0
    go_enter Tryd.func10, Tryd.ntmps10
    go_wp2_with (at_builtin; refine wpList_append_run _ rfl _ _ _ _ rfl _ _ rfl rfl (.slice x1 n c1) w1 HR0.out ?_; clear HR0)
    have SK : Sl w1 (.slice x1 n c1) l := by
      have := own_sl (w := w1) (v := .slice x1 n c1) (l := l) (by rw [HN.out]; exact O0.out.own) (by rw [HN.out]; omega)
      exact this
    refine (rof_ok SK (by rw [HN.out]; omega) hb).mono ?_
    rintro e w2 ⟨rfl, hk2⟩
    have O2 := hd (O0.out.step hk2)
    clear hk2 O0 SK
    have LD := hd (dig_len l)
    have OD := hd (bs_one (Sha.dig l))
    have BD := hd (byt_dig l)
    generalize Sha.dig l = kl at *
    have Q0 := Row.new w2 24 (bs (List.replicate 32 0))
    have Q1 := hd (Q0.put (us := bs kl))
    have Q0h := hd Q0
    have W3 : Below w2.heap.size w2 ((w2.alloc (.cells (bs (List.replicate 32 0)).toArray 24)).setRow w2.heap.size (bs kl).toArray) := below_setRow ((Below.refl _ _).alloc (Nat.le_refl _) _) _ _ (Nat.le_refl _)
    have O3 := O2.out.step W3
    have SD := Q1.out.sl (by rw [LD.out]; decide) 32 (by rw [LD.out]; decide) (by decide)
    rw [LD.out] at SD
    obtain ⟨v4, w4, r4, o4⟩ := (OfW.nil O3.bel O3.res).app SD BD.out (by rw [LD.out]; decide)
    rw [LD.out, Nat.zero_add, List.nil_append] at o4
    obtain ⟨x0, c0, rfl⟩ := o4.form
    have O1 := hd o4
    have HR4 := hd r4
    clear Q0 W3 O3 SD r4 o4 O2 Q1
    go_wp2_with (first
      | refine wpList_store_row rfl 24 _ _ rfl w2.heap.size (bs kl).toArray rfl rfl 24 _ Q0h.out (by rw [List.size_toArray, bs_len, LD.out]; exact info28) (by simp only [List.size_toArray, bs_len, LD.out, List.length_replicate]) OD.out ?_
      | (at_builtin; refine wpList_append_run _ rfl _ _ _ _ rfl _ _ rfl rfl (.slice x0 32 c0) w4 HR4.out ?_; clear HR4))
    clear Q0h LD OD BD
    obtain ⟨n0, e32⟩ : ∃ n0, 32 = n0 := ⟨_, rfl⟩
    have hn0 : n0 + 0 ≤ 64 := by omega
    rw [e32] at O1
    simp only [e32]
    clear e32
    go_loopw [5] (fun v wr => ∃ (q : Nat) (x : Option Addr) (c : Nat), n0 + q ≤ 64 ∧ v = .slice x (n0 + q) c ∧ OfW w wr v (n0 + q) (kl ++ List.replicate q 0)) (fun v _ => 64 - slLen v)
    case atStart => exact ⟨0, x0, c0, hn0, rfl, by rw [List.replicate_zero, List.append_nil]; exact O1.out⟩
    case round =>
      clear O1
      obtain ⟨q, x, c, hq, rfl, ho⟩ := hrel
      by_cases hlt : n0 + q < 64
      · have hlt' : ((n0 + q : Nat) : Int) < 64 := by omega
        obtain ⟨x', c', w', hr, ho'⟩ := ho.one 0 (by decide) (by decide) (by omega)
        rw [pad_step, Nat.add_assoc] at ho'
        have HO := hd ho'
        have HR := hd hr
        clear hr ho' ho
        have HQ : Hid (n0 + q + 1 ≤ 64 ∧ n0 + (q + 1) = n0 + q + 1) := hd (by omega)
        generalize hs : n0 + q = s at *
        have HSS := hd hs
        clear hs
        go_wp2_with (at_builtin; refine wpList_append_run _ rfl _ _ _ _ rfl _ _ rfl rfl (.slice x' (s + 1) c') w' HR.out ?_; clear HR)
        go_roundw
        case rel => exact ⟨q + 1, x', c', by rw [HQ.out.2]; exact HQ.out.1, by rw [HQ.out.2], by have h := HO.out; rw [HQ.out.2] at h ⊢; exact h⟩
        case measure => simp only [slLen]; omega
      · have hs : n0 + q = 64 := by omega
        have hz : kl ++ List.replicate q 0 = z := by
          rw [← KL.out]
          unfold Sha.pad
          have : q = 64 - kl.length := by have := ho.len; simp at this; omega
          rw [this]
        rw [hs, hz] at ho
        rw [hs]
        have R0 := hd ho.r5
        have LZ : Hid (z.length = 64) := hd ho.len
        clear ho hlt hq hz hs
        go_wp2_with fail
        go_loopw [7, 8, 9] (fun vi vo i wr => ∃ (k : Nat) (xi : Option Addr) (ci : Nat) (xo : Option Addr) (co : Nat), k ≤ 64 ∧ i = .int .i64 (k : Int) ∧ vi = .slice xi k ci ∧ vo = .slice xo k co ∧ R5 w wr (.slice x 64 c) vi vo z (Sha.mix 54 (z.take k)) (Sha.mix 92 (z.take k))) (fun _ _ i _ => 64 - (intOf i).toNat)
        case atStart => exact ⟨0, none, 0, none, 0, Nat.zero_le _, rfl, rfl, rfl, R0.out⟩
        case round =>
          clear R0
          obtain ⟨k, xi, ci, xo, co, hk, rfl, rfl, rfl, hR⟩ := hrel
          by_cases hlt : k < 64
          · have hlt' : (k : Int) < 64 := by omega
            have hkz : k < z.length := by rw [LZ.out]; exact hlt
            obtain ⟨g, rfl, hgc, c1⟩ := hR.cell LZ.out k hlt
            have lk1 : (Sha.mix 54 (z.take k)).length = k := by rw [mix_len, List.length_take]; omega
            have lk2 : (Sha.mix 92 (z.take k)).length = k := by rw [mix_len, List.length_take]; omega
            obtain ⟨xi', ci', wA, r1, hA⟩ := hR.one k lk1 (bits .xor .u8 (z.getD k 0) 54) (by omega)
            obtain ⟨g', hg', _, c2⟩ := hA.cell LZ.out k hlt
            injection hg' with hg'
            injection hg' with hg'
            subst hg'
            obtain ⟨xo', co', wB, r2, hB⟩ := hA.swap.one k lk2 (bits .xor .u8 (z.getD k 0) 92) (by omega)
            rw [← mix_succ 54 z k hkz, ← mix_succ 92 z k hkz] at hB
            have HB := hd hB.swap
            have HR1 := hd r1
            have HR2 := hd r2
            clear r1 r2 hA hB hR lk1 lk2 hkz
            generalize z.getD k 0 = α at *
            go_wp2_with (first
              | (at_builtin; refine wpList_append_run _ rfl _ _ _ _ rfl _ _ rfl rfl (.slice xi' (k + 1) ci') wA HR1.out ?_; clear HR1)
              | (at_builtin; refine wpList_append_run _ rfl _ _ _ _ rfl _ _ rfl rfl (.slice xo' (k + 1) co') wB HR2.out ?_; clear HR2))
            go_roundw
            case rel => exact ⟨k + 1, xi', ci', xo', co', by omega, by go_num, rfl, rfl, HB.out⟩
            case measure => simp [intOf]; omega
          · have hk64 : k = 64 := by omega
            subst hk64
            rw [List.take_of_length_le (by rw [LZ.out]; exact Nat.le_refl _)] at hR
            have LI : Hid ((Sha.mix 54 z).length = 64) := hd (by rw [mix_len, LZ.out])
            have LO : Hid ((Sha.mix 92 z).length = 64) := hd (by rw [mix_len, LZ.out])
            have BI := hd (byt_mix 54 z (by decide) BZ.out)
            have BO := hd (byt_mix 92 z (by decide) BZ.out)
            generalize Sha.mix 54 z = mi at *
            generalize Sha.mix 92 z = mo at *
            obtain ⟨v1, w1, r1, h1⟩ := hR.app (HVB.out.keep hR.bel) (by rw [LI.out, HLB.out]; omega)
            have SI : Hid (Sl w1 v1 (mi ++ b)) := hd (own_sl h1.oi (by rw [List.length_append, LI.out, HLB.out]; omega))
            have H1 := hd h1
            have HR1 := hd r1
            clear r1 h1 hR
            go_wp2_with (at_builtin; refine wpList_append_run _ rfl _ _ _ _ rfl _ _ rfl rfl v1 w1 HR1.out ?_; clear HR1)
            refine (rof_ok SI.out (by rw [List.length_append, LI.out, HLB.out]; omega) (BI.out.append bb)).mono ?_
            rintro e w2 ⟨rfl, hk2⟩
            have LD := hd (dig_len (mi ++ b))
            have OD := hd (bs_one (Sha.dig (mi ++ b)))
            have BD := hd (byt_dig (mi ++ b))
            generalize Sha.dig (mi ++ b) = d at *
            have H2 := hd (H1.out.step hk2)
            clear hk2 H1 SI
            have Q0 := Row.new w2 24 (bs (List.replicate 32 0))
            have Q1 := hd (Q0.put (us := bs d))
            have Q0h := hd Q0
            have W3 : Below w2.heap.size w2 ((w2.alloc (.cells (bs (List.replicate 32 0)).toArray 24)).setRow w2.heap.size (bs d).toArray) := below_setRow ((Below.refl _ _).alloc (Nat.le_refl _) _) _ _ (Nat.le_refl _)
            have H3 := hd (H2.out.step W3)
            clear Q0 W3 H2
            have SD := Q1.out.sl (by rw [LD.out]; decide) 32 (by rw [LD.out]; decide) (by decide)
            rw [LD.out] at SD
            obtain ⟨v4, w4, r4, h4⟩ := H3.out.swap.app SD (by rw [LO.out, LD.out]; decide)
            have SO : Hid (Sl w4 v4 (mo ++ d)) := hd (own_sl h4.oi (by rw [List.length_append, LO.out, LD.out]; decide))
            have H4 := hd h4
            have HR4 := hd r4
            clear SD r4 h4 H3 Q1
            go_wp2_with (first
              | refine wpList_store_row rfl 24 _ _ rfl w2.heap.size (bs d).toArray rfl rfl 24 _ Q0h.out (by rw [List.size_toArray, bs_len, LD.out]; exact info28) (by simp only [List.size_toArray, bs_len, LD.out, List.length_replicate]) OD.out ?_
              | (at_builtin; refine wpList_append_run _ rfl _ _ _ _ rfl _ _ rfl rfl v4 w4 HR4.out ?_; clear HR4))
            refine (rof_ok SO.out (by rw [List.length_append, LO.out, LD.out]; decide) (BO.out.append BD.out)).mono ?_
            rintro e w5 ⟨rfl, hk5⟩
            have LF := hd (dig_len (mo ++ d))
            have OF := hd (bs_one (Sha.dig (mo ++ d)))
            generalize Sha.dig (mo ++ d) = f at *
            have H5 := hd (H4.out.step hk5)
            clear hk5 H4 SO
            go_wp2_with (refine wpList_store_row rfl 24 _ _ rfl w.heap.size (bs f).toArray rfl rfl 24 _ H5.out.res (by rw [List.size_toArray, bs_len, LF.out]; exact info28) (by simp only [List.size_toArray, bs_len, LF.out, List.length_replicate]) OF.out ?_)
            refine bodyPost_ret (v := .agg (bs f).toArray) ?_ rfl ⟨?_, ?_⟩
            · exact results_cell_row (P := Tryd.prog) (fn := Tryd.f10) (p := 4) (ty := 24) (by kernel_rfl) _ _ w.heap.size 24 (bs f).toArray (0, 0) _ rfl (H5.out.res.put (us := bs f)) und28 rfl (by rw [List.size_toArray, bs_len, LF.out]; exact info28)
            · rw [HMac.out]
            · exact below_setRow H5.out.bel _ _ (Nat.le_refl _)
  · have c64 : ¬ (64 : Int) < (n : Int) := by omega
    have KL : Hid (Sha.pad l = z) := hd (by have := KL0.out; rw [HN.out, if_neg h64] at this; exact this)
    clear KL0
    have hn0 : n + 0 ≤ 64 := by omega
    have O1 := O0
    clear O0 h64
    go_enter Tryd.func10, Tryd.ntmps10
    go_wp2_with (at_builtin; refine wpList_append_run _ rfl _ _ _ _ rfl _ _ rfl rfl (.slice x1 n c1) w1 HR0.out ?_; clear HR0)
    generalize hkl : l = kl at O1 KL
    clear hkl
    go_loopw [5] (fun v wr => ∃ (q : Nat) (x : Option Addr) (c : Nat), n + q ≤ 64 ∧ v = .slice x (n + q) c ∧ OfW w wr v (n + q) (kl ++ List.replicate q 0)) (fun v _ => 64 - slLen v)
    case atStart => exact ⟨0, x1, c1, hn0, rfl, by rw [List.replicate_zero, List.append_nil]; exact O1.out⟩
    case round =>
      clear O1
      obtain ⟨q, x, c, hq, rfl, ho⟩ := hrel
      by_cases hlt : n + q < 64
      · have hlt' : ((n + q : Nat) : Int) < 64 := by omega
        obtain ⟨x', c', w', hr, ho'⟩ := ho.one 0 (by decide) (by decide) (by omega)
        rw [pad_step, Nat.add_assoc] at ho'
        have HO := hd ho'
        have HR := hd hr
        clear hr ho' ho
        have HQ : Hid (n + q + 1 ≤ 64 ∧ n + (q + 1) = n + q + 1) := hd (by omega)
        generalize hs : n + q = s at *
        have HSS := hd hs
        clear hs
        go_wp2_with (at_builtin; refine wpList_append_run _ rfl _ _ _ _ rfl _ _ rfl rfl (.slice x' (s + 1) c') w' HR.out ?_; clear HR)
        go_roundw
        case rel => exact ⟨q + 1, x', c', by rw [HQ.out.2]; exact HQ.out.1, by rw [HQ.out.2], by have h := HO.out; rw [HQ.out.2] at h ⊢; exact h⟩
        case measure => simp only [slLen]; omega
      · have hs : n + q = 64 := by omega
        have hz : kl ++ List.replicate q 0 = z := by
          rw [← KL.out]
          unfold Sha.pad
          have : q = 64 - kl.length := by have := ho.len; simp at this; omega
          rw [this]
        rw [hs, hz] at ho
        rw [hs]
        have R0 := hd ho.r5
        have LZ : Hid (z.length = 64) := hd ho.len
        clear ho hlt hq hz hs
        go_wp2_with fail
        go_loopw [7, 8, 9] (fun vi vo i wr => ∃ (k : Nat) (xi : Option Addr) (ci : Nat) (xo : Option Addr) (co : Nat), k ≤ 64 ∧ i = .int .i64 (k : Int) ∧ vi = .slice xi k ci ∧ vo = .slice xo k co ∧ R5 w wr (.slice x 64 c) vi vo z (Sha.mix 54 (z.take k)) (Sha.mix 92 (z.take k))) (fun _ _ i _ => 64 - (intOf i).toNat)
        case atStart => exact ⟨0, none, 0, none, 0, Nat.zero_le _, rfl, rfl, rfl, R0.out⟩
        case round =>
          clear R0
          obtain ⟨k, xi, ci, xo, co, hk, rfl, rfl, rfl, hR⟩ := hrel
          by_cases hlt : k < 64
          · have hlt' : (k : Int) < 64 := by omega
            have hkz : k < z.length := by rw [LZ.out]; exact hlt
            obtain ⟨g, rfl, hgc, c1⟩ := hR.cell LZ.out k hlt
            have lk1 : (Sha.mix 54 (z.take k)).length = k := by rw [mix_len, List.length_take]; omega
            have lk2 : (Sha.mix 92 (z.take k)).length = k := by rw [mix_len, List.length_take]; omega
            obtain ⟨xi', ci', wA, r1, hA⟩ := hR.one k lk1 (bits .xor .u8 (z.getD k 0) 54) (by omega)
            obtain ⟨g', hg', _, c2⟩ := hA.cell LZ.out k hlt
            injection hg' with hg'
            injection hg' with hg'
            subst hg'
            obtain ⟨xo', co', wB, r2, hB⟩ := hA.swap.one k lk2 (bits .xor .u8 (z.getD k 0) 92) (by omega)
            rw [← mix_succ 54 z k hkz, ← mix_succ 92 z k hkz] at hB
            have HB := hd hB.swap
            have HR1 := hd r1
            have HR2 := hd r2
            clear r1 r2 hA hB hR lk1 lk2 hkz
            generalize z.getD k 0 = α at *
            go_wp2_with (first
              | (at_builtin; refine wpList_append_run _ rfl _ _ _ _ rfl _ _ rfl rfl (.slice xi' (k + 1) ci') wA HR1.out ?_; clear HR1)
              | (at_builtin; refine wpList_append_run _ rfl _ _ _ _ rfl _ _ rfl rfl (.slice xo' (k + 1) co') wB HR2.out ?_; clear HR2))
            go_roundw
            case rel => exact ⟨k + 1, xi', ci', xo', co', by omega, by go_num, rfl, rfl, HB.out⟩
            case measure => simp [intOf]; omega
          · have hk64 : k = 64 := by omega
            subst hk64
            rw [List.take_of_length_le (by rw [LZ.out]; exact Nat.le_refl _)] at hR
            have LI : Hid ((Sha.mix 54 z).length = 64) := hd (by rw [mix_len, LZ.out])
            have LO : Hid ((Sha.mix 92 z).length = 64) := hd (by rw [mix_len, LZ.out])
            have BI := hd (byt_mix 54 z (by decide) BZ.out)
            have BO := hd (byt_mix 92 z (by decide) BZ.out)
            generalize Sha.mix 54 z = mi at *
            generalize Sha.mix 92 z = mo at *
            obtain ⟨v1, w1, r1, h1⟩ := hR.app (HVB.out.keep hR.bel) (by rw [LI.out, HLB.out]; omega)
            have SI : Hid (Sl w1 v1 (mi ++ b)) := hd (own_sl h1.oi (by rw [List.length_append, LI.out, HLB.out]; omega))
            have H1 := hd h1
            have HR1 := hd r1
            clear r1 h1 hR
            go_wp2_with (at_builtin; refine wpList_append_run _ rfl _ _ _ _ rfl _ _ rfl rfl v1 w1 HR1.out ?_; clear HR1)
            refine (rof_ok SI.out (by rw [List.length_append, LI.out, HLB.out]; omega) (BI.out.append bb)).mono ?_
            rintro e w2 ⟨rfl, hk2⟩
            have LD := hd (dig_len (mi ++ b))
            have OD := hd (bs_one (Sha.dig (mi ++ b)))
            have BD := hd (byt_dig (mi ++ b))
            generalize Sha.dig (mi ++ b) = d at *
            have H2 := hd (H1.out.step hk2)
            clear hk2 H1 SI
            have Q0 := Row.new w2 24 (bs (List.replicate 32 0))
            have Q1 := hd (Q0.put (us := bs d))
            have Q0h := hd Q0
            have W3 : Below w2.heap.size w2 ((w2.alloc (.cells (bs (List.replicate 32 0)).toArray 24)).setRow w2.heap.size (bs d).toArray) := below_setRow ((Below.refl _ _).alloc (Nat.le_refl _) _) _ _ (Nat.le_refl _)
            have H3 := hd (H2.out.step W3)
            clear Q0 W3 H2
            have SD := Q1.out.sl (by rw [LD.out]; decide) 32 (by rw [LD.out]; decide) (by decide)
            rw [LD.out] at SD
            obtain ⟨v4, w4, r4, h4⟩ := H3.out.swap.app SD (by rw [LO.out, LD.out]; decide)
            have SO : Hid (Sl w4 v4 (mo ++ d)) := hd (own_sl h4.oi (by rw [List.length_append, LO.out, LD.out]; decide))
            have H4 := hd h4
            have HR4 := hd r4
            clear SD r4 h4 H3 Q1
            go_wp2_with (first
              | refine wpList_store_row rfl 24 _ _ rfl w2.heap.size (bs d).toArray rfl rfl 24 _ Q0h.out (by rw [List.size_toArray, bs_len, LD.out]; exact info28) (by simp only [List.size_toArray, bs_len, LD.out, List.length_replicate]) OD.out ?_
              | (at_builtin; refine wpList_append_run _ rfl _ _ _ _ rfl _ _ rfl rfl v4 w4 HR4.out ?_; clear HR4))
            refine (rof_ok SO.out (by rw [List.length_append, LO.out, LD.out]; decide) (BO.out.append BD.out)).mono ?_
            rintro e w5 ⟨rfl, hk5⟩
            have LF := hd (dig_len (mo ++ d))
            have OF := hd (bs_one (Sha.dig (mo ++ d)))
            generalize Sha.dig (mo ++ d) = f at *
            have H5 := hd (H4.out.step hk5)
            clear hk5 H4 SO
            go_wp2_with (refine wpList_store_row rfl 24 _ _ rfl w.heap.size (bs f).toArray rfl rfl 24 _ H5.out.res (by rw [List.size_toArray, bs_len, LF.out]; exact info28) (by simp only [List.size_toArray, bs_len, LF.out, List.length_replicate]) OF.out ?_)
            refine bodyPost_ret (v := .agg (bs f).toArray) ?_ rfl ⟨?_, ?_⟩
            · exact results_cell_row (P := Tryd.prog) (fn := Tryd.f10) (p := 4) (ty := 24) (by kernel_rfl) _ _ w.heap.size 24 (bs f).toArray (0, 0) _ rfl (H5.out.res.put (us := bs f)) und28 rfl (by rw [List.size_toArray, bs_len, LF.out]; exact info28)
            · rw [HMac.out]
            · exact below_setRow H5.out.bel _ _ (Nat.le_refl _)
end Go.Proofs.YteefpbeglmnilaaDoor
