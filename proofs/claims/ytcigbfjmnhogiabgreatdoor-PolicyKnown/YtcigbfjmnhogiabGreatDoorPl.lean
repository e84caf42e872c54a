/- Where a name is in a row: strings.Compare, slices.BinarySearchFunc, place. -/
import Derived.Test.YtcigbfjmnhogiabGreatDoorCk
import Derived.Lib.Bytealg
namespace Go.Proofs.YtcigbfjmnhogiabGreatDoor
open Go.RowKit
set_option linter.unusedVariables false


theorem run110 (a b : ByteArray) (w : World) : (callFunc 111 #[.string a, .string b]).run Tryz.prog w = .ok (.value (.int .i64 (Lib.compareBytes a.data.toList b.data.toList))) w := by
  rw [run_callFunc_extern Tryz.func111 (by kernel_rfl) (by kernel_rfl) (by kernel_rfl) (e := Extern.BytealgCompare.compare) (by kernel_rfl), Lib.run_compareString]
  rfl

set_option maxHeartbeats 400000 in
theorem cmp90 (a b : ByteArray) (k : Int) (w : World) (h : Lib.compareBytes a.data.toList b.data.toList = k) :
    Calls Tryz.prog 98 #[.string a, .string b] w fun e w' => e = .returned (.int .i64 k) ∧ w' = w := by
  have hrun := run110 a b w
  rw [h] at hrun
  clear h
  go_enter Tryz.func98, Tryz.ntmps98
  go_wp2
  go_ret
  exact ⟨rfl, rfl⟩

set_option maxHeartbeats 400000 in
theorem cmp67 (a b : ByteArray) (k : Int) (w : World) (h : Lib.compareBytes a.data.toList b.data.toList = k) :
    Calls Tryz.prog 78 #[.string a, .string b] w fun e w' => e = .returned (.int .i64 k) ∧ w' = w := by
  have H := hd h
  clear h
  go_enter Tryz.func78, Tryz.ntmps78
  go_wp2_with (go_at_call 98; refine (cmp90 _ _ k _ H.out).mono ?_; rintro e w' ⟨rfl, rfl⟩)
  go_ret
  exact ⟨rfl, rfl⟩

/-- How a name stands to another one. -/
def cmpN (a b : ByteArray) : Int := Lib.compareBytes a.data.toList b.data.toList
theorem cmpN_lt (a b : ByteArray) : cmpN a b < 0 ↔ lts a b = true := (cmp_bl _ _).1
theorem cmpN_eq (a b : ByteArray) : cmpN a b = 0 ↔ eqs a b = true := by
  unfold cmpN
  rw [(cmp_bl _ _).2.1, eqs_iff]
  exact ⟨ba_ext, fun h => by rw [h]⟩
/-- A place and whether the name is there. -/
def PlEnd (w : World) (i : Nat) (b : Bool) (e : Ending) (w' : World) : Prop := e = .returned (.tuple #[.int .i64 (i : Int), .bool b]) ∧ Below w.heap.size w w'

set_option maxRecDepth 100000 in
set_option maxHeartbeats 1000000 in
theorem cloR (s : ByteArray) (x p : Int) (n : ByteArray) (k : Int) (bx : Nat) (w : World) (hk : cmpN s n = k) (hb : w.cell? ⟨bx, 0, none⟩ = some (.func (.func 24) #[] #[])) :
    Calls Tryz.prog 77 #[(.agg #[.string s, .int .i64 x, .int .u32 p]), .string n, .pointer (some ⟨bx, 0, none⟩)] w fun e w' => VEnd w (.int .i64 k) e w' := by
  have HK := hd hk
  clear hk
  have hbw := World.block_lt_of_cell? w _ hb
  go_enter Tryz.func77, Tryz.ntmps77
  have A1 := Bk.new w 37 #[Value.string s, Value.int IntKind.i64 x, Value.int IntKind.u32 p]
  have B1 := below1 w (Obj.cells #[Value.string s, Value.int IntKind.i64 x, Value.int IntKind.u32 p] 37)
  have hb1 := (below_cell B1 (p := ⟨bx, 0, none⟩) hbw).trans hb
  clear hb
  go_wp2_with fail
  refine (nameR s x p _).mono ?_
  rintro e w2 ⟨rfl, hk⟩
  have B := hd (below_below B1 hk)
  clear hk B1 A1 hb1
  go_wp2_with fail
  refine (cmp67 _ _ k _ HK.out).mono ?_
  rintro e w3 ⟨rfl, rfl⟩
  go_wp2_with fail
  go_ret
  exact VEnd.mk B.out

set_option maxRecDepth 100000 in
set_option maxHeartbeats 4000000 in
theorem bsfR {w : World} {v : Value} {xs : List RuleD} (n : ByteArray) (bx : Nat) (h : El encR 3 w v xs) (hs : Srt (α := RuleD) Prod.fst xs) (hb : w.cell? ⟨bx, 0, none⟩ = some (.func (.func 24) #[] #[])) :
    Calls Tryz.prog 76 #[v, .string n, .func (.func 77) #[] #[.pointer (some ⟨bx, 0, none⟩)]] w fun e w' => PlEnd w (pos (α := RuleD) Prod.fst n xs) (has (α := RuleD) Prod.fst n xs) e w' := by
  obtain ⟨x0, cap, rfl⟩ := h.form
  have H47 := h.len
  have HL := hd h
  clear h
  obtain ⟨m, hm⟩ : ∃ m, xs.length = m := ⟨_, rfl⟩
  rw [hm] at HL H47 ⊢
  have HN := hd hm
  clear hm
  have HSS := hd hs
  clear hs
  have HBX := hd hb
  have hbw := World.block_lt_of_cell? w _ hb
  clear hb
  obtain ⟨ps, hps⟩ : ∃ q, pos (α := RuleD) Prod.fst n xs = q := ⟨_, rfl⟩
  obtain ⟨hn, hhs⟩ : ∃ q, has (α := RuleD) Prod.fst n xs = q := ⟨_, rfl⟩
  rw [hps, hhs]
  have HP := hd hps
  have HH := hd hhs
  clear hps hhs
  go_enter Tryz.func76, Tryz.ntmps76
  go_wp2_with fail
  go_loopw [9, 10] (fun i j wr => ∃ lo hi : Nat, i = .int .i64 (lo : Int) ∧ j = .int .i64 (hi : Int) ∧ lo ≤ hi ∧ hi ≤ m ∧ Below w.heap.size w wr ∧ (∀ t, t < lo → lts (xs[t]!).1 n = true) ∧ ∀ t, hi ≤ t → t < m → lts (xs[t]!).1 n = false) (fun i j _ => (intOf j).toNat - (intOf i).toNat)
  case atStart => exact ⟨0, m, rfl, rfl, Nat.zero_le _, Nat.le_refl _, Below.refl _ _, fun t ht => absurd ht (Nat.not_lt_zero t), fun t h1 h2 => absurd h2 (by omega)⟩
  case round =>
    obtain ⟨lo, hi, rfl, rfl, hlh, hhm, hbl, ha, hz⟩ := hrel
    have HA := hd ha
    have HZ := hd hz
    have HB := hd hbl
    clear ha hz hbl
    by_cases hlt : lo < hi
    · have hlz : (lo : Int) < (hi : Int) := by omega
      obtain ⟨h, hh⟩ : ∃ h, (lo + hi) / 2 = h := ⟨_, rfl⟩
      have hhm2 : h < m := by omega
      have hhz : (h : Int) < (m : Int) := by omega
      have hmid : ((lo : Int) + (hi : Int)) / 2 = (h : Int) := by omega
      have hxk : h < xs.length := by rw [HN.out]; omega
      obtain ⟨⟨s1, x1, p1⟩, he1⟩ : ∃ r : RuleD, xs[h]'(by omega) = r := ⟨_, rfl⟩
      obtain ⟨g, off, hx, hc, _, c10, c11, c12⟩ := HL.out.atR HB.out HN.out hhm2 he1
      subst hx
      have HE1 := hd he1
      clear he1
      obtain ⟨q, hq⟩ : ∃ q, cmpN s1 n = q := ⟨_, rfl⟩
      have hbc := (below_cell HB.out (p := ⟨bx, 0, none⟩) hbw).trans HBX.out
      have HCL := hd (cloR s1 x1 p1 n q bx wr hq hbc)
      have HQ := hd hq
      have HHH := hd hh
      clear hq hbc hh
      by_cases hq0 : q < 0
      · have HL1 := hd ((cmpN_lt _ _).1 (by rw [HQ.out]; exact hq0))
        go_wp2_with fail
        refine HCL.out.mono ?_
        rintro e w2 ⟨rfl, hk⟩
        have HB2 := hd (below_below HB.out hk)
        clear hk c10 c11 c12
        go_wp2_with fail
        go_roundw
        case rel =>
          refine ⟨h + 1, hi, by go_num, rfl, by have := HHH.out; omega, hhm, HB2.out, fun t ht => ?_, HZ.out⟩
          by_cases e : t = h
          · subst e
            rw [getElem!_pos xs t hxk, HE1.out]
            exact HL1.out
          · have htx : t < xs.length := by omega
            have h3 := HSS.out.get (i := t) (j := h) (by omega) hxk
            rw [HE1.out] at h3
            rw [getElem!_pos xs t htx]
            exact lts_trans h3 HL1.out
        case measure => simp [intOf]; have := HHH.out; omega
      · have HL1 : Hid (lts s1 n = false) := hd (by
          cases hh : lts s1 n
          · rfl
          · exact absurd ((cmpN_lt _ _).2 hh) (by rw [HQ.out]; exact hq0))
        go_wp2_with fail
        refine HCL.out.mono ?_
        rintro e w2 ⟨rfl, hk⟩
        have HB2 := hd (below_below HB.out hk)
        clear hk c10 c11 c12
        go_wp2_with fail
        go_roundw
        case rel =>
          refine ⟨lo, h, rfl, rfl, by have := HHH.out; omega, by omega, HB2.out, HA.out, fun t h1 h2 => ?_⟩
          have htx : t < xs.length := by rw [HN.out]; exact h2
          rw [getElem!_pos xs t htx]
          by_cases e : t = h
          · subst e
            rw [HE1.out]
            exact HL1.out
          · cases hh : lts (xs[t]).1 n
            · rfl
            · have h3 := HSS.out.get (i := h) (j := t) (by omega) htx
              rw [HE1.out] at h3
              have h4 := lts_trans h3 hh
              rw [HL1.out] at h4
              cases h4
        case measure => simp [intOf]; have := HHH.out; omega
    · have hnl : ¬ (lo : Int) < (hi : Int) := by omega
      have hlo : lo = hi := by omega
      subst hlo
      have hps : ps = lo := by
        rw [← HP.out]
        exact pos_at (by rw [HN.out]; exact hhm) HA.out (fun t h1 h2 => HZ.out t h1 (by rw [HN.out] at h2; exact h2))
      have HPS := hd hps
      have hha := has_at (nm := (Prod.fst : RuleD → ByteArray)) HSS.out n
      rw [HH.out, HP.out, HPS.out, HN.out] at hha
      have HHA := hd hha
      clear hha hps
      by_cases hlm : lo < m
      · have hlz : (lo : Int) < (m : Int) := by omega
        have hxk : lo < xs.length := by rw [HN.out]; omega
        obtain ⟨⟨s1, x1, p1⟩, he1⟩ : ∃ r : RuleD, xs[lo]'(by omega) = r := ⟨_, rfl⟩
        obtain ⟨g, off, hx, hc, _, c10, c11, c12⟩ := HL.out.atR HB.out HN.out hlm he1
        subst hx
        have HE1 := hd he1
        clear he1
        obtain ⟨q, hq⟩ : ∃ q, cmpN s1 n = q := ⟨_, rfl⟩
        have hbc := (below_cell HB.out (p := ⟨bx, 0, none⟩) hbw).trans HBX.out
        have HCL := hd (cloR s1 x1 p1 n q bx wr hq hbc)
        have hqe : (q == 0) = hn := by
          rw [HHA.out, decide_eq_true hlm, Bool.true_and, getElem!_pos xs lo hxk, HE1.out]
          have h5 := cmpN_eq s1 n
          rw [hq] at h5
          cases hh : eqs s1 n
          · rw [beq_eq_false_iff_ne]
            intro e
            rw [h5.1 e] at hh
            cases hh
          · rw [beq_iff_eq]
            exact h5.2 hh
        clear hq hbc
        go_wp2_with fail
        refine HCL.out.mono ?_
        rintro e w2 ⟨rfl, hk⟩
        have HB2 := hd (below_below HB.out hk)
        clear hk c10 c11 c12
        go_wp2_with fail
        go_ret2
        exact ⟨by rw [HPS.out]; rfl, HB2.out⟩
      · have hnl2 : ¬ (lo : Int) < (m : Int) := by omega
        have hh0 : hn = false := by rw [HHA.out, decide_eq_false hlm]; rfl
        have HH0 := hd hh0
        clear hh0
        go_wp2_with fail
        go_ret2
        exact ⟨by rw [HPS.out, HH0.out]; rfl, HB.out⟩

set_option maxRecDepth 100000 in
set_option maxHeartbeats 1000000 in
theorem placeR {w : World} {v : Value} {xs : List RuleD} (n : ByteArray) (h : El encR 3 w v xs) (hs : Srt (α := RuleD) Prod.fst xs) :
    Calls Tryz.prog 58 #[v, .string n, .func (.func 24) #[] #[]] w fun e w' => PlEnd w (pos (α := RuleD) Prod.fst n xs) (has (α := RuleD) Prod.fst n xs) e w' := by
  have H := hd h
  have HS := hd hs
  clear h hs
  obtain ⟨i, hi⟩ : ∃ i, pos (α := RuleD) Prod.fst n xs = i := ⟨_, rfl⟩
  obtain ⟨b, hbb⟩ : ∃ b, has (α := RuleD) Prod.fst n xs = b := ⟨_, rfl⟩
  rw [hi, hbb]
  have HI := hd hi
  have HBB := hd hbb
  clear hi hbb
  go_enter Tryz.func58, Tryz.ntmps58
  go_wp2_with fail
  have B1 := below1 w (Obj.cells #[Value.func (Fn.func 24) #[] #[]] 68)
  have A1 := Bk.new w 68 #[Value.func (Fn.func 24) #[] #[]]
  generalize w.alloc (Obj.cells #[Value.func (Fn.func 24) #[] #[]] 68) = w1 at *
  have hb := A1.cell 0
  simp at hb
  refine (bsfR n w.heap.size (H.out.keep B1) HS.out hb).mono ?_
  rintro e w2 ⟨rfl, hk⟩
  have B := hd (below_below B1 hk)
  clear hk hb B1 A1
  go_wp2_with fail
  go_ret2
  exact ⟨by rw [← HI.out, ← HBB.out]; rfl, B.out⟩

set_option maxRecDepth 100000 in
set_option maxHeartbeats 1000000 in
theorem cloQ (s : ByteArray) (x p a b : Int) (n : ByteArray) (k : Int) (bx : Nat) (w : World) (hk : cmpN s n = k) (hb : w.cell? ⟨bx, 0, none⟩ = some (.func (.func 28) #[] #[])) :
    Calls Tryz.prog 84 #[(.agg #[.string s, .int .i64 x, .int .u32 p, .int .i64 a, .int .i64 b]), .string n, .pointer (some ⟨bx, 0, none⟩)] w fun e w' => VEnd w (.int .i64 k) e w' := by
  have HK := hd hk
  clear hk
  have hbw := World.block_lt_of_cell? w _ hb
  go_enter Tryz.func84, Tryz.ntmps84
  have A1 := Bk.new w 39 #[Value.string s, Value.int IntKind.i64 x, Value.int IntKind.u32 p, Value.int IntKind.i64 a, Value.int IntKind.i64 b]
  have B1 := below1 w (Obj.cells #[Value.string s, Value.int IntKind.i64 x, Value.int IntKind.u32 p, Value.int IntKind.i64 a, Value.int IntKind.i64 b] 39)
  have hb1 := (below_cell B1 (p := ⟨bx, 0, none⟩) hbw).trans hb
  clear hb
  go_wp2_with fail
  refine (nameQ s x p a b _).mono ?_
  rintro e w2 ⟨rfl, hk⟩
  have B := hd (below_below B1 hk)
  clear hk B1 A1 hb1
  go_wp2_with fail
  refine (cmp67 _ _ k _ HK.out).mono ?_
  rintro e w3 ⟨rfl, rfl⟩
  go_wp2_with fail
  go_ret
  exact VEnd.mk B.out

set_option maxRecDepth 100000 in
set_option maxHeartbeats 4000000 in
theorem bsfQ {w : World} {v : Value} {xs : List ReaderD} (n : ByteArray) (bx : Nat) (h : El encQ 5 w v xs) (hs : Srt (α := ReaderD) Prod.fst xs) (hb : w.cell? ⟨bx, 0, none⟩ = some (.func (.func 28) #[] #[])) :
    Calls Tryz.prog 83 #[v, .string n, .func (.func 84) #[] #[.pointer (some ⟨bx, 0, none⟩)]] w fun e w' => PlEnd w (pos (α := ReaderD) Prod.fst n xs) (has (α := ReaderD) Prod.fst n xs) e w' := by
  obtain ⟨x0, cap, rfl⟩ := h.form
  have H47 := h.len
  have HL := hd h
  clear h
  obtain ⟨m, hm⟩ : ∃ m, xs.length = m := ⟨_, rfl⟩
  rw [hm] at HL H47 ⊢
  have HN := hd hm
  clear hm
  have HSS := hd hs
  clear hs
  have HBX := hd hb
  have hbw := World.block_lt_of_cell? w _ hb
  clear hb
  obtain ⟨ps, hps⟩ : ∃ q, pos (α := ReaderD) Prod.fst n xs = q := ⟨_, rfl⟩
  obtain ⟨hn, hhs⟩ : ∃ q, has (α := ReaderD) Prod.fst n xs = q := ⟨_, rfl⟩
  rw [hps, hhs]
  have HP := hd hps
  have HH := hd hhs
  clear hps hhs
  go_enter Tryz.func83, Tryz.ntmps83
  go_wp2_with fail
  go_loopw [9, 10] (fun i j wr => ∃ lo hi : Nat, i = .int .i64 (lo : Int) ∧ j = .int .i64 (hi : Int) ∧ lo ≤ hi ∧ hi ≤ m ∧ Below w.heap.size w wr ∧ (∀ t, t < lo → lts (xs[t]!).1 n = true) ∧ ∀ t, hi ≤ t → t < m → lts (xs[t]!).1 n = false) (fun i j _ => (intOf j).toNat - (intOf i).toNat)
  case atStart => exact ⟨0, m, rfl, rfl, Nat.zero_le _, Nat.le_refl _, Below.refl _ _, fun t ht => absurd ht (Nat.not_lt_zero t), fun t h1 h2 => absurd h2 (by omega)⟩
  case round =>
    obtain ⟨lo, hi, rfl, rfl, hlh, hhm, hbl, ha, hz⟩ := hrel
    have HA := hd ha
    have HZ := hd hz
    have HB := hd hbl
    clear ha hz hbl
    by_cases hlt : lo < hi
    · have hlz : (lo : Int) < (hi : Int) := by omega
      obtain ⟨h, hh⟩ : ∃ h, (lo + hi) / 2 = h := ⟨_, rfl⟩
      have hhm2 : h < m := by omega
      have hhz : (h : Int) < (m : Int) := by omega
      have hmid : ((lo : Int) + (hi : Int)) / 2 = (h : Int) := by omega
      have hxk : h < xs.length := by rw [HN.out]; omega
      obtain ⟨⟨s1, x1, p1, a1, b1⟩, he1⟩ : ∃ r : ReaderD, xs[h]'(by omega) = r := ⟨_, rfl⟩
      obtain ⟨g, off, hx, hc, _, c10, c11, c12, c13, c14⟩ := HL.out.atQ HB.out HN.out hhm2 he1
      subst hx
      have HE1 := hd he1
      clear he1
      obtain ⟨q, hq⟩ : ∃ q, cmpN s1 n = q := ⟨_, rfl⟩
      have hbc := (below_cell HB.out (p := ⟨bx, 0, none⟩) hbw).trans HBX.out
      have HCL := hd (cloQ s1 x1 p1 a1 b1 n q bx wr hq hbc)
      have HQ := hd hq
      have HHH := hd hh
      clear hq hbc hh
      by_cases hq0 : q < 0
      · have HL1 := hd ((cmpN_lt _ _).1 (by rw [HQ.out]; exact hq0))
        go_wp2_with fail
        refine HCL.out.mono ?_
        rintro e w2 ⟨rfl, hk⟩
        have HB2 := hd (below_below HB.out hk)
        clear hk c10 c11 c12 c13 c14
        go_wp2_with fail
        go_roundw
        case rel =>
          refine ⟨h + 1, hi, by go_num, rfl, by have := HHH.out; omega, hhm, HB2.out, fun t ht => ?_, HZ.out⟩
          by_cases e : t = h
          · subst e
            rw [getElem!_pos xs t hxk, HE1.out]
            exact HL1.out
          · have htx : t < xs.length := by omega
            have h3 := HSS.out.get (i := t) (j := h) (by omega) hxk
            rw [HE1.out] at h3
            rw [getElem!_pos xs t htx]
            exact lts_trans h3 HL1.out
        case measure => simp [intOf]; have := HHH.out; omega
      · have HL1 : Hid (lts s1 n = false) := hd (by
          cases hh : lts s1 n
          · rfl
          · exact absurd ((cmpN_lt _ _).2 hh) (by rw [HQ.out]; exact hq0))
        go_wp2_with fail
        refine HCL.out.mono ?_
        rintro e w2 ⟨rfl, hk⟩
        have HB2 := hd (below_below HB.out hk)
        clear hk c10 c11 c12 c13 c14
        go_wp2_with fail
        go_roundw
        case rel =>
          refine ⟨lo, h, rfl, rfl, by have := HHH.out; omega, by omega, HB2.out, HA.out, fun t h1 h2 => ?_⟩
          have htx : t < xs.length := by rw [HN.out]; exact h2
          rw [getElem!_pos xs t htx]
          by_cases e : t = h
          · subst e
            rw [HE1.out]
            exact HL1.out
          · cases hh : lts (xs[t]).1 n
            · rfl
            · have h3 := HSS.out.get (i := h) (j := t) (by omega) htx
              rw [HE1.out] at h3
              have h4 := lts_trans h3 hh
              rw [HL1.out] at h4
              cases h4
        case measure => simp [intOf]; have := HHH.out; omega
    · have hnl : ¬ (lo : Int) < (hi : Int) := by omega
      have hlo : lo = hi := by omega
      subst hlo
      have hps : ps = lo := by
        rw [← HP.out]
        exact pos_at (by rw [HN.out]; exact hhm) HA.out (fun t h1 h2 => HZ.out t h1 (by rw [HN.out] at h2; exact h2))
      have HPS := hd hps
      have hha := has_at (nm := (Prod.fst : ReaderD → ByteArray)) HSS.out n
      rw [HH.out, HP.out, HPS.out, HN.out] at hha
      have HHA := hd hha
      clear hha hps
      by_cases hlm : lo < m
      · have hlz : (lo : Int) < (m : Int) := by omega
        have hxk : lo < xs.length := by rw [HN.out]; omega
        obtain ⟨⟨s1, x1, p1, a1, b1⟩, he1⟩ : ∃ r : ReaderD, xs[lo]'(by omega) = r := ⟨_, rfl⟩
        obtain ⟨g, off, hx, hc, _, c10, c11, c12, c13, c14⟩ := HL.out.atQ HB.out HN.out hlm he1
        subst hx
        have HE1 := hd he1
        clear he1
        obtain ⟨q, hq⟩ : ∃ q, cmpN s1 n = q := ⟨_, rfl⟩
        have hbc := (below_cell HB.out (p := ⟨bx, 0, none⟩) hbw).trans HBX.out
        have HCL := hd (cloQ s1 x1 p1 a1 b1 n q bx wr hq hbc)
        have hqe : (q == 0) = hn := by
          rw [HHA.out, decide_eq_true hlm, Bool.true_and, getElem!_pos xs lo hxk, HE1.out]
          have h5 := cmpN_eq s1 n
          rw [hq] at h5
          cases hh : eqs s1 n
          · rw [beq_eq_false_iff_ne]
            intro e
            rw [h5.1 e] at hh
            cases hh
          · rw [beq_iff_eq]
            exact h5.2 hh
        clear hq hbc
        go_wp2_with fail
        refine HCL.out.mono ?_
        rintro e w2 ⟨rfl, hk⟩
        have HB2 := hd (below_below HB.out hk)
        clear hk c10 c11 c12 c13 c14
        go_wp2_with fail
        go_ret2
        exact ⟨by rw [HPS.out]; rfl, HB2.out⟩
      · have hnl2 : ¬ (lo : Int) < (m : Int) := by omega
        have hh0 : hn = false := by rw [HHA.out, decide_eq_false hlm]; rfl
        have HH0 := hd hh0
        clear hh0
        go_wp2_with fail
        go_ret2
        exact ⟨by rw [HPS.out, HH0.out]; rfl, HB.out⟩

set_option maxRecDepth 100000 in
set_option maxHeartbeats 1000000 in
theorem placeQ {w : World} {v : Value} {xs : List ReaderD} (n : ByteArray) (h : El encQ 5 w v xs) (hs : Srt (α := ReaderD) Prod.fst xs) :
    Calls Tryz.prog 62 #[v, .string n, .func (.func 28) #[] #[]] w fun e w' => PlEnd w (pos (α := ReaderD) Prod.fst n xs) (has (α := ReaderD) Prod.fst n xs) e w' := by
  have H := hd h
  have HS := hd hs
  clear h hs
  obtain ⟨i, hi⟩ : ∃ i, pos (α := ReaderD) Prod.fst n xs = i := ⟨_, rfl⟩
  obtain ⟨b, hbb⟩ : ∃ b, has (α := ReaderD) Prod.fst n xs = b := ⟨_, rfl⟩
  rw [hi, hbb]
  have HI := hd hi
  have HBB := hd hbb
  clear hi hbb
  go_enter Tryz.func62, Tryz.ntmps62
  go_wp2_with fail
  have B1 := below1 w (Obj.cells #[Value.func (Fn.func 28) #[] #[]] 72)
  have A1 := Bk.new w 72 #[Value.func (Fn.func 28) #[] #[]]
  generalize w.alloc (Obj.cells #[Value.func (Fn.func 28) #[] #[]] 72) = w1 at *
  have hb := A1.cell 0
  simp at hb
  refine (bsfQ n w.heap.size (H.out.keep B1) HS.out hb).mono ?_
  rintro e w2 ⟨rfl, hk⟩
  have B := hd (below_below B1 hk)
  clear hk hb B1 A1
  go_wp2_with fail
  go_ret2
  exact ⟨by rw [← HI.out, ← HBB.out]; rfl, B.out⟩

end Go.Proofs.YtcigbfjmnhogiabGreatDoor
