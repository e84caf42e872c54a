/- The document's Decimal and number. -/
import Derived.Test.YtcigbfjmnhogiaaGreatDoorWr
import Derived.Test.YtcigbfjmnhogiaaGreatDoorNb
import Derived.Test.YtcigbfjmnhogiaaGreatDoorDd
namespace Go.Proofs.YtcigbfjmnhogiaaGreatDoor
open Go.RowKit
set_option linter.unusedVariables false

/-- What digits are worth. -/
def dv : Nat → List UInt8 → Nat
  | a, [] => a
  | a, c :: t => dv (10 * a + (c.toNat - 48)) t
theorem dv_snoc (c : UInt8) : ∀ (l : List UInt8) (a : Nat), dv a (l ++ [c]) = 10 * dv a l + (c.toNat - 48)
  | [], a => rfl
  | b :: t, a => dv_snoc c t _
theorem dv_dd (u : Nat) : dv 0 (Lib.decDigits u) = u := by
  induction u using Nat.strongRecOn with
  | _ u ih =>
    rw [Lib.decDigits]
    split
    · rename_i h
      have e := dg_byte u h
      show 10 * 0 + ((UInt8.ofNat (48 + u)).toNat - 48) = u
      rw [e]
      omega
    · rename_i h
      have e := dg_byte (u % 10) (by omega)
      rw [dv_snoc, ih (u / 10) (by omega), e]
      omega
theorem dv_take {l : List UInt8} {k : Nat} (h : k < l.length) : dv 0 (l.take (k + 1)) = 10 * dv 0 (l.take k) + (l[k].toNat - 48) := by
  rw [List.take_succ_eq_append_getElem h, dv_snoc]
theorem dv_lt : ∀ (l : List UInt8) (a k : Nat), (∀ b ∈ l, b.toNat ≤ 57) → a < 10 ^ k → dv a l < 10 ^ (k + l.length)
  | [], a, k, _, h => h
  | c :: t, a, k, hb, h => by
    have h1 := hb c (by simp)
    have := dv_lt t (10 * a + (c.toNat - 48)) (k + 1) (fun b hb' => hb b (List.mem_cons_of_mem _ hb')) (by rw [Nat.pow_succ]; omega)
    rw [List.length_cons, show k + (t.length + 1) = k + 1 + t.length by omega]
    exact this
theorem dv_small {l : List UInt8} (h : ∀ b ∈ l, 48 ≤ b.toNat ∧ b.toNat ≤ 57) (hl : l.length ≤ 18) : dv 0 l < 1000000000000000000 := by
  have h1 := dv_lt l 0 0 (fun b hb => (h b hb).2) (by decide)
  have h2 : 10 ^ (0 + l.length) ≤ 10 ^ 18 := Nat.pow_le_pow_right (by decide) (by omega)
  have h3 : (10 : Nat) ^ 18 = 1000000000000000000 := by decide
  omega
theorem dv_small17 {l : List UInt8} (h : ∀ b ∈ l, 48 ≤ b.toNat ∧ b.toNat ≤ 57) (hl : l.length ≤ 17) : dv 0 l < 100000000000000000 := by
  have h1 := dv_lt l 0 0 (fun b hb => (h b hb).2) (by decide)
  have h2 : 10 ^ (0 + l.length) ≤ 10 ^ 17 := Nat.pow_le_pow_right (by decide) (by omega)
  have h3 : (10 : Nat) ^ 17 = 100000000000000000 := by decide
  omega
theorem bt_mem {s : ByteArray} {k : Nat} (h : ∀ t, t < k → 48 ≤ bt s t ∧ bt s t ≤ 57) (hk : k ≤ s.size) : ∀ b ∈ s.data.toList.take k, 48 ≤ b.toNat ∧ b.toNat ≤ 57 := by
  intro b hb
  obtain ⟨t, ht, rfl⟩ := List.getElem_of_mem hb
  rw [List.length_take] at ht
  have h1 := h t (by omega)
  rw [List.getElem_take]
  unfold bt at h1
  rw [List.getD_eq_getElem?_getD, List.getElem?_eq_getElem (by omega)] at h1
  exact h1

/-- What Decimal tells of a text. -/
def DcmOK (s : ByteArray) (n : Int) (ok : Bool) : Prop :=
  (-1000000000000000000 < n ∧ n < 1000000000000000000) ∧ (ok = true → Lib.itoa n = s.data.toList) ∧ ∀ u : Int, 0 ≤ u → u ≤ 1000000 → s.data.toList = Lib.itoa u → ok = true ∧ n = u
def DcmEnd (w : World) (s : ByteArray) (e : Ending) (w' : World) : Prop := ∃ n ok, e = .returned (.tuple #[.int .i64 n, .bool ok]) ∧ DcmOK s n ok ∧ Below w.heap.size w w'
theorem DcmOK.none {s : ByteArray} (h : ∀ u : Int, 0 ≤ u → u ≤ 1000000 → s.data.toList ≠ Lib.itoa u) : DcmOK s 0 false := ⟨by omega, (fun h => by cases h), fun u h1 h2 h3 => absurd h3 (h u h1 h2)⟩
theorem itoa_dd {u : Int} (h : 0 ≤ u) : Lib.itoa u = Lib.decDigits u.toNat := by unfold Lib.itoa; rw [if_neg (by omega)]
/-- A number's own text: digits, few of them. -/
theorem own_text {s : ByteArray} {u : Int} (h0 : 0 ≤ u) (h1 : u ≤ 1000000) (h : s.data.toList = Lib.itoa u) : 1 ≤ s.size ∧ s.size ≤ 7 ∧ (∀ t, t < s.size → 48 ≤ bt s t ∧ bt s t ≤ 57) ∧ dv 0 s.data.toList = u.toNat := by
  have hsz : s.size = (Lib.itoa u).length := by rw [← h]; rfl
  have hl := itoa_len u h0 h1
  have hne : 1 ≤ (Lib.itoa u).length := by
    rw [itoa_dd h0]
    exact List.length_pos_iff.2 (dd_ne _)
  refine ⟨by omega, by omega, fun t ht => ?_, by rw [h, itoa_dd h0]; exact dv_dd _⟩
  have hm : s.data.toList[t]'(by simpa using ht) ∈ Lib.decDigits u.toNat := by rw [← itoa_dd h0, ← h]; exact List.getElem_mem _
  have := dd_mem u.toNat _ hm
  unfold bt
  rw [List.getD_eq_getElem?_getD, List.getElem?_eq_getElem (by simpa using ht)]
  exact this

set_option maxRecDepth 100000 in
set_option maxHeartbeats 4000000 in
theorem dcm_pos (s : ByteArray) (w : World) (hz : s.size ≤ 140737488355328) (hg : Glob w) (hs : ∀ h : 0 < s.size, (s[0]'h).toNat ≠ 45) :
    Calls Tryz.prog 100 #[.string s] w fun e w' => DcmEnd w s e w' := by
  have HG := hd hg
  clear hg
  by_cases h1 : 1 ≤ s.size
  · have he := str_some' h1
    have hs0 : 0 < s.size := by omega
    obtain ⟨c0, hc0⟩ : ∃ c0, (s[0]'hs0).toNat = c0 := ⟨_, rfl⟩
    have h45 : ((c0 : Int) == 45) = false := by
      have := hs hs0
      rw [hc0] at this
      rw [beq_eq_false_iff_ne]
      omega
    clear hs h1 hz
    obtain ⟨m, hm⟩ : ∃ m, s.size = m := ⟨_, rfl⟩
    by_cases hm0 : 1 ≤ m
    · have hde := str_some' (s := s) (by omega)
      by_cases hm18 : m ≤ 18
      · have hlt18 : ¬ (18 : Int) < (m : Int) := by omega
        have HM18 := hd hm18
        have HM := hd hm
        clear hm0 hm18
        go_enter Tryz.func100, Tryz.ntmps100
        go_wp2_with fail
        go_loopw [5, 6] (fun a i wr => ∃ k nn : Nat, k ≤ m ∧ a = .int .i64 (nn : Int) ∧ i = .int .i64 (k : Int) ∧ Below w.heap.size w wr ∧ nn = dv 0 (s.data.toList.take k) ∧ ∀ t, t < k → 48 ≤ bt s t ∧ bt s t ≤ 57) (fun _ i _ => m - (intOf i).toNat)
        case atStart => exact ⟨0, 0, Nat.zero_le _, rfl, rfl, Below.refl _ _, rfl, fun t h => absurd h (Nat.not_lt_zero t)⟩
        case round =>
          obtain ⟨k, nn, hk, rfl, rfl, hbw, hnn, ha⟩ := hrel
          have HA := hd ha
          have HNN := hd hnn
          have HBW := hd hbw
          have hnb : nn < 1000000000000000000 := by
            rw [hnn]
            exact dv_small (bt_mem ha (by omega)) (by rw [List.length_take]; have := HM18.out; omega)
          clear ha hnn hbw
          by_cases hlt : k < m
          · have hlz : (k : Int) < (m : Int) := by omega
            have hks : k < s.size := by omega
            obtain ⟨c, hc⟩ : ∃ c, (s[k]'hks).toNat = c := ⟨_, rfl⟩
            have HC := hd ((bt_eq s k hks).symm.trans hc)
            have hc256 : c < 256 := by rw [← HC.out]; exact bt_lt s k
            by_cases h48 : 48 ≤ c
            · by_cases h57 : c ≤ 57
              · have z1 : ¬ (c : Int) < 48 := by omega
                have z2 : ¬ (57 : Int) < (c : Int) := by omega
                have z3 : IntKind.u8.wrap ((c : Int) - 48) = (c : Int) - 48 := by rw [IntKind.wrap_u8]; omega
                have HV : Hid (10 * (nn : Int) + ((c : Int) - 48) = ((dv 0 (s.data.toList.take (k + 1)) : Nat) : Int)) := hd (by
                  rw [dv_take (by simpa using hks), ← HNN.out]
                  have hb : (s.data.toList[k]'(by simpa using hks)).toNat = c := by
                    have h1 := HC.out
                    unfold bt at h1
                    rw [List.getD_eq_getElem?_getD, List.getElem?_eq_getElem (by simpa using hks)] at h1
                    exact h1
                  rw [hb]
                  omega)
                have hnb2 : nn < 100000000000000000 := by
                  rw [HNN.out]
                  exact dv_small17 (bt_mem HA.out (by omega)) (by rw [List.length_take]; have := HM18.out; omega)
                have z4 : wrap64 (10 * (nn : Int)) = 10 * (nn : Int) := by unfold wrap64; omega
                have z5 : wrap64 (10 * (nn : Int) + ((c : Int) - 48)) = 10 * (nn : Int) + ((c : Int) - 48) := by unfold wrap64; omega
                have HZ5 := hd z5
                clear z5
                have HH := hd (show 48 ≤ c ∧ c ≤ 57 from ⟨h48, h57⟩)
                have HMS := hd (show m - (intOf (.int .i64 ((k : Int) + 1))).toNat < m - (intOf (.int .i64 (k : Int))).toNat by simp only [intOf]; omega)
                clear h48 h57
                go_wp2_with fail
                go_roundw
                case rel =>
                  refine ⟨k + 1, dv 0 (s.data.toList.take (k + 1)), by omega, ?_, by go_num, HBW.out, rfl, fun t ht => ?_⟩
                  · exact congrArg (Value.int IntKind.i64) HV.out
                  · by_cases e : t = k
                    · subst e; rw [HC.out]; exact HH.out
                    · exact HA.out t (by omega)
                case measure => exact HMS.out
              · have z1 : ¬ (c : Int) < 48 := by omega
                have z2 : (57 : Int) < (c : Int) := by omega
                have HF : Hid (∀ u : Int, 0 ≤ u → u ≤ 1000000 → s.data.toList ≠ Lib.itoa u) := hd (fun u h0 h1 h2 => by
                  obtain ⟨o1, o2, o3, o4⟩ := own_text h0 h1 h2
                  have := o3 k hks
                  have hbk := HC.out
                  omega)
                clear h48 h57
                go_wp2_with fail
                go_ret2
                exact ⟨_, _, rfl, DcmOK.none HF.out, HBW.out⟩
            · have z1 : (c : Int) < 48 := by omega
              have HF : Hid (∀ u : Int, 0 ≤ u → u ≤ 1000000 → s.data.toList ≠ Lib.itoa u) := hd (fun u h0 h1 h2 => by
                obtain ⟨o1, o2, o3, o4⟩ := own_text h0 h1 h2
                have := o3 k hks
                have hbk := HC.out
                omega)
              clear h48
              go_wp2_with fail
              go_ret2
              exact ⟨_, _, rfl, DcmOK.none HF.out, HBW.out⟩
          · have hlz : ¬ (k : Int) < (m : Int) := by omega
            have hkm : k = m := by omega
            have hlen : s.data.toList.length = s.size := by simp
            have HVAL : Hid (nn = dv 0 s.data.toList) := hd (by
              rw [HNN.out, List.take_of_length_le (by omega)])
            clear hlen
            have z6 : wrap64 (-(nn : Int)) = -(nn : Int) := by unfold wrap64; omega
            have HNB := hd hnb
            have HIT := hd fun w (hg : Glob w) => itoa_ok ((nn : Int)) w (by omega) (by omega) hg
            obtain ⟨tn, htn⟩ : ∃ tn, tx ((nn : Int)) = tn := ⟨_, rfl⟩
            rw [htn] at HIT
            have HTN := hd htn
            obtain ⟨q, hq⟩ : ∃ q, (tn.toList == s.toList) = q := ⟨_, rfl⟩
            have HQ := hd hq
            clear hkm hlt htn hk hnb
            go_wp2_with fail
            refine (HIT.out _ (HG.out.keep HBW.out)).mono ?_
            rintro e w2 ⟨rfl, hk2⟩
            have HB2 := hd (below_below HBW.out hk2)
            clear hk2
            go_wp2_with fail
            go_ret2
            refine ⟨_, _, rfl, ⟨by have := HNB.out; omega, fun h => ?_, ?_⟩, HB2.out⟩
            · have h2 := HQ.out
              rw [h, eqs_toList, eqs_iff, ← HTN.out] at h2
              rw [← h2]
              rfl
            · intro u h0 h1 h2
              obtain ⟨o1, o2, o3, o4⟩ := own_text h0 h1 h2
              have hv : (nn : Int) = u := by have := HVAL.out; omega
              refine ⟨?_, hv⟩
              rw [← HQ.out, eqs_toList, eqs_iff, ← HTN.out, hv]
              exact (ba_ext h2).symm
      · have hlt18 : (18 : Int) < (m : Int) := by omega
        have HF : Hid (∀ u : Int, 0 ≤ u → u ≤ 1000000 → s.data.toList ≠ Lib.itoa u) := hd (fun u h0 h1 h2 => by
          obtain ⟨o1, o2, o3, o4⟩ := own_text h0 h1 h2
          omega)
        clear hm18 hm0
        go_enter Tryz.func100, Tryz.ntmps100
        go_wp2_with fail
        go_ret2
        exact ⟨_, _, rfl, DcmOK.none HF.out, Below.refl _ _⟩
    · have hde := str_none (s := s) (by omega)
      have HF : Hid (∀ u : Int, 0 ≤ u → u ≤ 1000000 → s.data.toList ≠ Lib.itoa u) := hd (fun u h0 h1 h2 => by
        obtain ⟨o1, o2, o3, o4⟩ := own_text h0 h1 h2
        omega)
      clear hm0
      subst hde
      go_enter Tryz.func100, Tryz.ntmps100
      go_wp2_with fail
      go_ret2
      exact ⟨_, _, rfl, DcmOK.none HF.out, Below.refl _ _⟩
  · have hde := str_none (s := s) h1
    have HF : Hid (∀ u : Int, 0 ≤ u → u ≤ 1000000 → s.data.toList ≠ Lib.itoa u) := hd (fun u h0 h1' h2 => by
      obtain ⟨o1, o2, o3, o4⟩ := own_text h0 h1' h2
      omega)
    clear hs h1 hz
    subst hde
    go_enter Tryz.func100, Tryz.ntmps100
    go_wp2_with fail
    go_ret2
    exact ⟨_, _, rfl, DcmOK.none HF.out, Below.refl _ _⟩

set_option maxRecDepth 100000 in
set_option maxHeartbeats 4000000 in
theorem dcm_neg (s d : ByteArray) (w : World) (hz : s.size ≤ 140737488355328) (hg : Glob w) (hs0 : 0 < s.size) (hs : (s[0]'hs0).toNat = 45) (hd' : s.extract 1 s.size = d) :
    Calls Tryz.prog 100 #[.string s] w fun e w' => DcmEnd w s e w' := by
  have HG := hd hg
  clear hg
  have he := str_some' (s := s) (by omega)
  have HNO : Hid (∀ u : Int, 0 ≤ u → u ≤ 1000000 → s.data.toList ≠ Lib.itoa u) := hd (fun u h0 h1' h2 => by
    obtain ⟨o1, o2, o3, o4⟩ := own_text h0 h1' h2
    have := o3 0 hs0
    rw [← bt_eq s 0 hs0, hs] at this
    omega)
  have hne : (d.toList == s.toList) = false := by
    rw [eqs_toList]
    refine eqs_false fun e => ?_
    have h1 : d.size = s.size - 1 := by rw [← hd', ByteArray.size_extract]; omega
    rw [e] at h1
    omega
  have hne2 : ¬ d.toList = s.toList := by
    intro e
    rw [e] at hne
    simp at hne
  obtain ⟨sn, hsn⟩ : ∃ sn, s.size = sn := ⟨_, rfl⟩
  rw [hsn] at hd'
  have h1sn : (1 : Int) ≤ (sn : Int) := by omega
  clear hz
  obtain ⟨m, hm⟩ : ∃ m, d.size = m := ⟨_, rfl⟩
  by_cases hm0 : 1 ≤ m
  · have hde := str_some' (s := d) (by omega)
    by_cases hm18 : m ≤ 18
    · have hlt18 : ¬ (18 : Int) < (m : Int) := by omega
      have HM18 := hd hm18
      have HM := hd hm
      clear hm0 hm18
      go_enter Tryz.func100, Tryz.ntmps100
      go_wp2_with fail
      go_loopw [5, 6] (fun a i wr => ∃ k nn : Nat, k ≤ m ∧ a = .int .i64 (nn : Int) ∧ i = .int .i64 (k : Int) ∧ Below w.heap.size w wr ∧ nn = dv 0 (d.data.toList.take k) ∧ ∀ t, t < k → 48 ≤ bt d t ∧ bt d t ≤ 57) (fun _ i _ => m - (intOf i).toNat)
      case atStart => exact ⟨0, 0, Nat.zero_le _, rfl, rfl, Below.refl _ _, rfl, fun t h => absurd h (Nat.not_lt_zero t)⟩
      case round =>
        obtain ⟨k, nn, hk, rfl, rfl, hbw, hnn, ha⟩ := hrel
        have HA := hd ha
        have HNN := hd hnn
        have HBW := hd hbw
        have hnb : nn < 1000000000000000000 := by
          rw [hnn]
          exact dv_small (bt_mem ha (by omega)) (by rw [List.length_take]; have := HM18.out; omega)
        clear ha hnn hbw
        by_cases hlt : k < m
        · have hlz : (k : Int) < (m : Int) := by omega
          have hks : k < d.size := by omega
          obtain ⟨c, hc⟩ : ∃ c, (d[k]'hks).toNat = c := ⟨_, rfl⟩
          have HC := hd ((bt_eq d k hks).symm.trans hc)
          have hc256 : c < 256 := by rw [← HC.out]; exact bt_lt d k
          by_cases h48 : 48 ≤ c
          · by_cases h57 : c ≤ 57
            · have z1 : ¬ (c : Int) < 48 := by omega
              have z2 : ¬ (57 : Int) < (c : Int) := by omega
              have z3 : IntKind.u8.wrap ((c : Int) - 48) = (c : Int) - 48 := by rw [IntKind.wrap_u8]; omega
              have HV : Hid (10 * (nn : Int) + ((c : Int) - 48) = ((dv 0 (d.data.toList.take (k + 1)) : Nat) : Int)) := hd (by
                rw [dv_take (by simpa using hks), ← HNN.out]
                have hb : (d.data.toList[k]'(by simpa using hks)).toNat = c := by
                  have h1 := HC.out
                  unfold bt at h1
                  rw [List.getD_eq_getElem?_getD, List.getElem?_eq_getElem (by simpa using hks)] at h1
                  exact h1
                rw [hb]
                omega)
              have hnb2 : nn < 100000000000000000 := by
                rw [HNN.out]
                exact dv_small17 (bt_mem HA.out (by omega)) (by rw [List.length_take]; have := HM18.out; omega)
              have z4 : wrap64 (10 * (nn : Int)) = 10 * (nn : Int) := by unfold wrap64; omega
              have z5 : wrap64 (10 * (nn : Int) + ((c : Int) - 48)) = 10 * (nn : Int) + ((c : Int) - 48) := by unfold wrap64; omega
              have HZ5 := hd z5
              clear z5
              have HH := hd (show 48 ≤ c ∧ c ≤ 57 from ⟨h48, h57⟩)
              have HMS := hd (show m - (intOf (.int .i64 ((k : Int) + 1))).toNat < m - (intOf (.int .i64 (k : Int))).toNat by simp only [intOf]; omega)
              clear h48 h57
              go_wp2_with fail
              go_roundw
              case rel =>
                refine ⟨k + 1, dv 0 (d.data.toList.take (k + 1)), by omega, ?_, by go_num, HBW.out, rfl, fun t ht => ?_⟩
                · exact congrArg (Value.int IntKind.i64) HV.out
                · by_cases e : t = k
                  · subst e; rw [HC.out]; exact HH.out
                  · exact HA.out t (by omega)
              case measure => exact HMS.out
            · have z1 : ¬ (c : Int) < 48 := by omega
              have z2 : (57 : Int) < (c : Int) := by omega
              clear h48 h57
              go_wp2_with fail
              go_ret2
              exact ⟨_, _, rfl, DcmOK.none HNO.out, HBW.out⟩
          · have z1 : (c : Int) < 48 := by omega
            clear h48
            go_wp2_with fail
            go_ret2
            exact ⟨_, _, rfl, DcmOK.none HNO.out, HBW.out⟩
        · have hlz : ¬ (k : Int) < (m : Int) := by omega
          have hkm : k = m := by omega
          have hlen : d.data.toList.length = d.size := by simp
          have HVAL : Hid (nn = dv 0 d.data.toList) := hd (by
            rw [HNN.out, List.take_of_length_le (by omega)])
          clear hlen
          have z6 : wrap64 (-(nn : Int)) = -(nn : Int) := by unfold wrap64; omega
          have HNB := hd hnb
          have HIT := hd fun w (hg : Glob w) => itoa_ok (-(nn : Int)) w (by omega) (by omega) hg
          obtain ⟨tn, htn⟩ : ∃ tn, tx (-(nn : Int)) = tn := ⟨_, rfl⟩
          rw [htn] at HIT
          have HTN := hd htn
          obtain ⟨q, hq⟩ : ∃ q, (tn.toList == s.toList) = q := ⟨_, rfl⟩
          have HQ := hd hq
          clear hkm hlt htn hk hnb
          go_wp2_with fail
          refine (HIT.out _ (HG.out.keep HBW.out)).mono ?_
          rintro e w2 ⟨rfl, hk2⟩
          have HB2 := hd (below_below HBW.out hk2)
          clear hk2
          go_wp2_with fail
          go_ret2
          refine ⟨_, _, rfl, ⟨by have := HNB.out; omega, fun h => ?_, ?_⟩, HB2.out⟩
          · have h2 := HQ.out
            rw [h, eqs_toList, eqs_iff, ← HTN.out] at h2
            rw [← h2]
            rfl
          · exact fun u h0 h1 h2 => absurd h2 (HNO.out u h0 h1)
    · have hlt18 : (18 : Int) < (m : Int) := by omega
      clear hm18 hm0
      go_enter Tryz.func100, Tryz.ntmps100
      go_wp2_with fail
      go_ret2
      exact ⟨_, _, rfl, DcmOK.none HNO.out, Below.refl _ _⟩
  · have hde := str_none (s := d) (by omega)
    clear hm0
    subst hde
    go_enter Tryz.func100, Tryz.ntmps100
    go_wp2_with fail
    go_ret2
    exact ⟨_, _, rfl, DcmOK.none HNO.out, Below.refl _ _⟩

theorem dcm_ok (s : ByteArray) (w : World) (hz : s.size ≤ 140737488355328) (hg : Glob w) : Calls Tryz.prog 100 #[.string s] w fun e w' => DcmEnd w s e w' := by
  by_cases h : ∃ h : 0 < s.size, (s[0]'h).toNat = 45
  · obtain ⟨h0, h1⟩ := h
    exact dcm_neg s _ w hz hg h0 h1 rfl
  · exact dcm_pos s w hz hg fun h0 h1 => h ⟨h0, h1⟩

/-- What number tells of a text. -/
def NumD (s : ByteArray) (v : Int) : Prop := (0 ≤ v → numP s = some v) ∧ ∀ u, numP s = some u → 0 ≤ u → u ≤ 1000000 → v = u
def NumDEnd (w : World) (s : ByteArray) (e : Ending) (w' : World) : Prop := ∃ v, e = .returned (.int .i64 v) ∧ NumD s v ∧ Below w.heap.size w w'
set_option maxHeartbeats 1000000 in
theorem numd_ok (s : ByteArray) (w : World) (hz : s.size ≤ 140737488355328) (hg : Glob w) : Calls Tryz.prog 83 #[.string s] w fun e w' => NumDEnd w s e w' := by
  have H := hd (dcm_ok s w hz hg)
  clear hz hg
  go_enter Tryz.func83, Tryz.ntmps83
  go_wp2_with fail
  refine H.out.mono ?_
  rintro e w' ⟨n, ok, rfl, ⟨h1, h2, h3⟩, hk⟩
  have HK := hd hk
  cases ok
  · have HN : Hid (NumD s (-1)) := hd ⟨fun h => absurd h (by decide), fun u hu h0 hb => by
      have := (h3 u h0 hb (numP_some hu)).1
      cases this⟩
    clear h1 h2 h3 hk
    go_wp2_with fail
    go_ret
    exact ⟨_, rfl, HN.out, HK.out⟩
  · have HN : Hid (NumD s n) := hd ⟨fun h => by
      have e : s = tB (Lib.itoa n) := ba_ext (h2 rfl).symm
      rw [e]
      exact numP_itoa n h (by omega), fun u hu h0 hb => (h3 u h0 hb (numP_some hu)).2⟩
    clear h1 h2 h3 hk
    go_wp2_with fail
    go_ret
    exact ⟨_, rfl, HN.out, HK.out⟩

end Go.Proofs.YtcigbfjmnhogiaaGreatDoor
