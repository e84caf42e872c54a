/- The document's Parse; PolicyParses: the walk. -/
import Derived.Test.YtcigbfjmnhogiaaGreatDoorLnq
import Derived.Test.YtcigbfjmnhogiaaGreatDoorBkw
import Derived.Test.YtcigbfjmnhogiaaGreatDoorRsm
import Derived.Laws.ResultCell
namespace Go.Proofs.YtcigbfjmnhogiaaGreatDoor
open Go.RowKit
set_option linter.unusedVariables false

/-- How the document's Parse ends. -/
def PsD (w : World) (e : Ending) (w' : World) : Option PolD × Nat → Prop
  | (some st, _) => PsS w st e w'
  | (none, n) => PsN w n e w'
theorem res_pol2 {fn : Func} {p u v : Tmp} (h : fn.results = #[.cell p 25, .tmp u, .tmp v]) (tmps : Array Value) (w : World) (g : Nat) (cs : Array Value)
    (hp : tmps.getD p undef = .pointer (some ⟨g, 0, none⟩)) (hg : Bk w g 25 cs) (hs : cs.size = 2) :
    (results fn tmps).run Tryz.prog w = .ok (.tuple #[.agg cs, tmps.getD u undef, tmps.getD v undef]) w := res_pol h tmps w g cs hp hg hs
theorem line_any {w : World} {pb : Nat} {st : PolD} {l : ByteArray} (hP : PolE w pb st) (hG : GoodP st) (hz : l.size ≤ 2000000) (hv : (l.size == 0 || isRem l) = false) (hg : Glob w) :
    Calls Tryz.prog 53 #[.pointer (some ⟨pb, 0, none⟩), .string l] w fun e w' => LnEnd w pb st l e w' := by
  obtain ⟨ps, hp⟩ : ∃ ps, (cutL 32 l.data.toList).map tB = ps := ⟨_, rfl⟩
  have hlt : pb < w.heap.size := by
    obtain ⟨B, vr, vq, hb, _⟩ := hP
    exact hb.lt
  by_cases h3 : ps.length = 3 ∧ (hdW ps).data.toList = wRule
  · obtain ⟨h3, h0⟩ := h3
    match ps, h3 with
    | [p0, a, b], _ => exact line_rule hP hG hz hv hp h0
  · by_cases h5 : ps.length = 5 ∧ (hdW ps).data.toList = wReader
    · obtain ⟨h5, h0⟩ := h5
      match ps, h5 with
      | [p0, a, b, c, d], _ => exact line_reader hP hG hz hv hp h0 hg
    · exact line_other hlt hz hv hp (fun h e => h3 ⟨h, e⟩) (fun h e => h5 ⟨h, e⟩)
theorem runL_step {k : Nat} {st : PolD} {L : List (List UInt8)} {i : Nat} (hi : i < L.length) : runL k st (L.drop i) = match heedM st (tB L[i]) with | none => (none, k) | some st' => runL (k + 1) st' (L.drop (i + 1)) := by
  rw [List.drop_eq_getElem_cons hi]
  rfl
theorem heed_noop {st : PolD} {l : ByteArray} (h : (l.size == 0 || isRem l) = true) : heedM st l = some st := by
  unfold heedM
  rw [h]
  rfl

set_option maxRecDepth 100000 in
set_option maxHeartbeats 8000000 in
theorem rparse_ok (s : ByteArray) (w : World) (hs : s.size ≤ 1048576) (h8 : 8 ≤ w.heap.size) (hg : Glob w) :
    Calls Tryz.prog 24 #[.string s] w fun e w' => PsD w e w' (parseM s) := by
  obtain ⟨M, hM⟩ : ∃ M, parseM s = M := ⟨_, rfl⟩
  rw [hM]
  rw [parseM_cut] at hM
  obtain ⟨L, hL⟩ : ∃ L, cutL 10 s.data.toList = L := ⟨_, rfl⟩
  have hlen : L.length ≤ 1048577 := by
    rw [← hL, cutL_len]
    have h1 : s.data.toList.count 10 ≤ s.data.toList.length := List.count_le_length
    have h2 : s.data.toList.length = s.size := by simp
    omega
  have hmem : ∀ x ∈ L, x.length ≤ 1048576 := by
    intro x hx
    rw [← hL] at hx
    have h1 := cut_mem_len hx
    have h2 : s.data.toList.length = s.size := by simp
    omega
  have SP := hd fun w => splitN s w (by omega) (by
    have h1 : s.data.toList.count 10 ≤ s.data.toList.length := List.count_le_length
    have h2 : s.data.toList.length = s.size := by simp
    omega)
  rw [hL] at SP hM
  obtain ⟨n, hn⟩ : ∃ n, L.length = n := ⟨_, rfl⟩
  have HN := hd hn
  have HMEM := hd hmem
  have HG := hd hg
  have HM := hd hM
  have hnb : n ≤ 1048577 := by omega
  have H8 := hd h8
  clear hs hM hL hg hmem h8 hlen hn
  go_enter Tryz.func24, Tryz.ntmps24
  go_wp2_with fail
  have a1 := (Bk.new w 25 #[Value.slice none 0 0, Value.slice none 0 0]).alloc (Obj.cells #[Value.slice none 0 0, Value.slice none 0 0] 25)
  have a2 := Bk.new (w.alloc (Obj.cells #[Value.slice none 0 0, Value.slice none 0 0] 25)) 25 #[Value.slice none 0 0, Value.slice none 0 0]
  have k1 := below2 w (Obj.cells #[Value.slice none 0 0, Value.slice none 0 0] 25) (Obj.cells #[Value.slice none 0 0, Value.slice none 0 0] 25)
  have z1 : ((w.alloc (Obj.cells #[Value.slice none 0 0, Value.slice none 0 0] 25)).alloc (Obj.cells #[Value.slice none 0 0, Value.slice none 0 0] 25)).heap.size = w.heap.size + 2 := by simp
  rw [World.size_alloc] at a2
  generalize (w.alloc (Obj.cells #[Value.slice none 0 0, Value.slice none 0 0] 25)).alloc (Obj.cells #[Value.slice none 0 0, Value.slice none 0 0] 25) = w1 at *
  obtain ⟨pb, hpb⟩ : ∃ pb, w.heap.size + 1 = pb := ⟨_, rfl⟩
  have HPB := hd hpb
  rw [hpb] at a2 ⊢
  have HP1 : Hid (PolE w1 pb ([], [])) := hd ⟨w1.heap.size, _, _, a2, ⟨rfl, Or.inl ⟨rfl, rfl⟩⟩, ⟨rfl, Or.inl ⟨rfl, rfl⟩⟩, by omega, Nat.le_refl _⟩
  have HA1 := hd a1
  have HK1 := hd k1
  clear a1 a2 k1 z1 hpb
  refine (SP.out w1).mono ?_
  rintro e w2 ⟨v, rfl, ⟨g, rfl, ht⟩, hk⟩
  rw [List.length_map, HN.out]
  have HT := hd ht
  have HP2 : Hid (PolE w2 pb ([], [])) := hd (by
    obtain ⟨B, vr, vq, h1, h2, h3, h4, h5⟩ := HP1.out
    exact ⟨B, vr, vq, h1.keep hk, own_below h2 hk, own_below h3 hk, h4, Nat.le_trans h5 hk.size⟩)
  have HA2 := hd (HA1.out.keep hk)
  have HK2 := hd (below_below HK1.out hk)
  have HGP : Hid (¬ g = pb) := hd (fun e => by
    subst e
    obtain ⟨B, vr, vq, h1, _⟩ := HP2.out
    unfold Bk at ht h1
    rw [ht] at h1
    simp at h1)
  clear ht hk HP1 HA1 HK1
  go_wp2_with fail
  go_loopw [7] (fun i wr => ∃ (k : Nat) (st : PolD), k ≤ n ∧ i = .int .i64 (k : Int) ∧ PolE wr pb st ∧ GoodP st ∧ Kp (fun b => b = pb) w2 wr ∧ runL (k + 1) st (L.drop k) = M) (fun i _ => n - (intOf i).toNat)
  case atStart => exact ⟨0, ([], []), Nat.zero_le _, rfl, HP2.out, goodP_nil, Kp.refl _ _, HM.out⟩
  case round =>
    obtain ⟨k, st, hkn, rfl, hp, hgp, hkp, hrun⟩ := hrel
    have HP := hd hp
    have HGD := hd hgp
    have HKP := hd hkp
    have HRUN := hd hrun
    have HBW : Hid (Below w.heap.size w wr) := hd (HK2.out.trans (hkp.belowB HK2.out.size (fun b hb e => by have := HPB.out; omega)))
    clear hp hgp hkp hrun
    by_cases hlt : k < n
    · have hlz : (k : Int) < (n : Int) := by omega
      have hxk : k < L.length := by rw [HN.out]; exact hlt
      obtain ⟨l, hl⟩ : ∃ l, tB (L[k]'hxk) = l := ⟨_, rfl⟩
      have hzl : l.size ≤ 2000000 := by
        rw [← hl, tB_size]
        have := HMEM.out _ (List.getElem_mem hxk)
        omega
      have c0 : wr.cell? ⟨g, k, none⟩ = some (.string l) := by
        rw [(HT.out.kp HKP.out HGP.out).cell, List.getElem?_toArray, List.getElem?_map, List.getElem?_map, List.getElem?_eq_getElem hxk, ← hl]
        rfl
      have hst := runL_step (k := k + 1) (st := st) hxk
      rw [HRUN.out, hl] at hst
      have HST := hd hst
      have hw1 : wrap64 ((k : Int) + 1) = (k : Int) + 1 := by unfold wrap64; omega
      have HMS := hd (show n - (intOf (.int .i64 ((k : Int) + 1))).toNat < n - (intOf (.int .i64 (k : Int))).toNat by simp only [intOf]; omega)
      have HZL := hd hzl
      clear hl hst hzl
      by_cases h1 : 1 ≤ l.size
      · have hle := str_some' h1
        have hl0 : 0 < l.size := by omega
        obtain ⟨c, hc⟩ : ∃ c, (l[0]'hl0).toNat = c := ⟨_, rfl⟩
        have HC := hd ((bt_eq l 0 hl0).symm.trans hc)
        have H1 := hd h1
        obtain ⟨ln, hln⟩ : ∃ ln, l.size = ln := ⟨_, rfl⟩
        have hln0 : (0 : Int) < (ln : Int) := by omega
        have HLN := hd hln
        clear h1
        by_cases h35 : c = 35
        · have hz35 : ((c : Int) == 35) = true := by rw [h35]; rfl
          have HNO : Hid (heedM st l = some st) := hd (heed_noop (by
            have : isRem l = true := by
              unfold isRem
              rw [decide_eq_true H1.out, HC.out, h35]
              rfl
            rw [this, Bool.or_true]))
          subst h35
          go_wp2_with fail
          go_roundw
          case rel =>
            have h := HST.out
            rw [HNO.out] at h
            exact ⟨k + 1, st, by omega, by go_num, HP.out, HGD.out, HKP.out, h.symm⟩
          case measure => exact HMS.out
        · have hz35 : ((c : Int) == 35) = false := by rw [beq_eq_false_iff_ne]; omega
          have HV : Hid ((l.size == 0 || isRem l) = false) := hd (by
            have e1 : (l.size == 0) = false := by rw [beq_eq_false_iff_ne]; have := H1.out; omega
            have e2 : isRem l = false := by
              unfold isRem
              rw [HC.out, decide_eq_false h35, Bool.and_false]
            rw [e1, e2]
            rfl)
          have hz35b : ¬ (c : Int) = 35 := by omega
          have hz35c : ((c : Int) != 35) = true := by rw [bne_iff_ne]; omega
          go_wp2_with fail
          refine (line_any HP.out HGD.out HZL.out HV.out (HG.out.keep HBW.out)).mono ?_
          rintro e w4 ⟨ok, rfl, hk4, hm⟩
          have HK4 := hd (HKP.out.trans hk4)
          have HB4 : Hid (Below w.heap.size w w4) := hd (HBW.out.trans (hk4.belowB HBW.out.size (fun b hb e => by have := HPB.out; omega)))
          cases hh : heedM st l with
          | none =>
            rw [hh] at hm
            subst hm
            have HEQ : Hid (M = (none, k + 1)) := hd (by rw [HST.out, hh])
            have r0 := (HA2.out.kp HK4.out (by have := HPB.out; omega)).cell 0
            have r1 := (HA2.out.kp HK4.out (by have := HPB.out; omega)).cell 1
            have f0 := (HA2.out.kp HK4.out (by have := HPB.out; omega)).fz 0
            have f1 := (HA2.out.kp HK4.out (by have := HPB.out; omega)).fz 1
            simp at r0 r1
            have RB := hd (HA2.out.kp HK4.out (by have := HPB.out; omega))
            clear hk4 hh
            go_wp2_with fail
            try simp only [Exit.inBlock, Exit.then]
            refine bodyPost_ret (res_pol rfl _ _ w.heap.size _ rfl ((RB.out.set 0 _).set 1 _) rfl) rfl ?_
            rw [HEQ.out]
            exact ⟨rfl, below_setCell (below_setCell HB4.out ⟨w.heap.size, 0, none⟩ _ (Nat.le_refl _)) ⟨w.heap.size, 1, none⟩ _ (Nat.le_refl _)⟩
          | some st' =>
            rw [hh] at hm
            obtain ⟨hm1, hp'⟩ := hm
            subst hm1
            have HP4 := hd hp'
            have HG4 := hd (goodP_heed (l := l.data.toList) HGD.out (by rw [tB_of]; exact hh)).1
            have HRN : Hid (runL (k + 1 + 1) st' (L.drop (k + 1)) = M) := hd (by rw [HST.out, hh])
            clear hk4 hh hp'
            go_wp2_with fail
            go_roundw
            case rel => exact ⟨k + 1, st', by omega, by go_num, HP4.out, HG4.out, HK4.out, HRN.out⟩
            case measure => exact HMS.out
      · have hle := str_none h1
        have HNO : Hid (heedM st l = some st) := hd (by rw [hle]; exact heedM_nil st)
        subst hle
        clear h1
        go_wp2_with fail
        go_roundw
        case rel =>
          have h := HST.out
          rw [HNO.out] at h
          exact ⟨k + 1, st, by omega, by go_num, HP.out, HGD.out, HKP.out, h.symm⟩
        case measure => exact HMS.out
    · have hlz : ¬ (k : Int) < (n : Int) := by omega
      have HEQ : Hid (M = (some st, 0)) := hd (by
        rw [← HRUN.out, List.drop_eq_nil_of_le (by rw [HN.out]; omega)]
        rfl)
      obtain ⟨B, vr, vq, hb, ho1, ho2, hpB, hB⟩ := HP.out
      have e1 := OwR.el ho1 HGD.out.lr
      have e2 := OwQ.el ho2 HGD.out.lq
      obtain ⟨x1, n1, c1, rfl⟩ := own_form ho1
      obtain ⟨x2, n2, c2, rfl⟩ := own_form ho2
      have p0 := hb.cell 0
      have p1 := hb.cell 1
      have RB := hd (HA2.out.kp HKP.out (by have := HPB.out; omega))
      have r0 := RB.out.cell 0
      have r1 := RB.out.cell 1
      have f0 := RB.out.fz 0
      have f1 := RB.out.fz 1
      simp at p0 p1 r0 r1
      have HE1 := hd e1
      have HE2 := hd e2
      clear hb ho1 ho2 hpB hB e1 e2 hlt hkn
      go_wp2_with fail
      try simp only [Exit.inBlock, Exit.then]
      refine bodyPost_ret (res_pol rfl _ _ w.heap.size _ rfl ((RB.out.set 0 _).set 1 _) rfl) rfl ?_
      rw [HEQ.out]
      exact ⟨_, _, _, _, _, _, rfl, el_setPol (fun x => ⟨_, rfl⟩) (by omega) HE1.out RB.out _ _, el_setPol (fun x => ⟨_, rfl⟩) (by omega) HE2.out RB.out _ _, below_setCell (below_setCell HBW.out ⟨w.heap.size, 0, none⟩ _ (Nat.le_refl _)) ⟨w.heap.size, 1, none⟩ _ (Nat.le_refl _)⟩

end Go.Proofs.YtcigbfjmnhogiaaGreatDoor
