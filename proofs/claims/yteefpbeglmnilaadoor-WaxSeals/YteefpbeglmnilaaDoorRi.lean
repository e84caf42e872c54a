/- The digest, as the document's answer makes it. -/
import Derived.Test.YteefpbeglmnilaaDoorRh
import Derived.Test.YteefpbeglmnilaaDoorOw
namespace Go.Proofs.YteefpbeglmnilaaDoor
open Go.RowKit
set_option linter.unusedVariables false

/-- The row that grows, and the one that is handed back. -/
structure OfW (w wr : World) (v : Value) (n : Nat) (l : List Int) : Prop where
  bel : Below w.heap.size w wr
  res : Row wr w.heap.size 24 (bs (List.replicate 32 0))
  own : wr.ownsRow (w.heap.size + 1) 5 1 v n (bs l)
  len : l.length = n
  byt : Byt l

theorem OfW.form {w wr : World} {v : Value} {n : Nat} {l : List Int} (h : OfW w wr v n l) : ∃ x c, v = .slice x n c := row_form h.own

theorem OfW.app {w wr : World} {v x : Value} {n : Nat} {l m : List Int} (h : OfW w wr v n l) (hx : Sl wr x m) (hm : Byt m) (hb : n + m.length ≤ 140737488355328) :
    ∃ v' w', (Builtin.append_ #[22, 22] 22 #[v, x]).run Tryd.prog wr = .ok v' w' ∧ OfW w w' v' (n + m.length) (l ++ m) := by
  have ho := h.own
  rw [← h.len] at ho
  obtain ⟨v', w', hr, ho', hk, _⟩ := append_at ho hx (Nat.lt_of_lt_of_le h.res.lt (Nat.le_refl _)) (by rw [h.len]; exact hb) 22
  have hs : ∀ i, i < w.heap.size + 1 → ¬ some i = v.ownBlock := fun i hi e => by have := (h.own.lt i e.symm).1; omega
  refine ⟨v', w', hr, h.bel.trans (hk.below _ h.bel.size (fun i hi => hs i (by omega))), hk.at h.res (hs _ (by omega)), ?_, by rw [List.length_append, h.len], h.byt.append hm⟩
  rw [List.length_append, h.len] at ho'
  exact ho'
theorem OfW.step {w wr w' : World} {v : Value} {n : Nat} {l : List Int} (h : OfW w wr v n l) (k : Below wr.heap.size wr w') : OfW w w' v n l :=
  ⟨below_below h.bel k, h.res.keep k h.res.lt, (kpB k (fun _ => False)).row h.own (fun _ _ h => h), h.len, h.byt⟩

/-- One byte more. -/
theorem OfW.one {w wr : World} {v : Value} {n : Nat} {l : List Int} (h : OfW w wr v n l) (y : Int) (h0 : 0 ≤ y) (h1 : y ≤ 255) (hb : n + 1 ≤ 140737488355328) :
    ∃ x c w', (Builtin.append_ #[22, 22] 22 #[v, .slice (some ⟨wr.heap.size, 0, none⟩) 1 1]).run Tryd.prog (wr.alloc (.cells #[.int .u8 y] 5)) = .ok (.slice x (n + 1) c) w' ∧ OfW w w' (.slice x (n + 1) c) (n + 1) (l ++ [y]) := by
  obtain ⟨v', w', hr, ho⟩ := (h.step ((Below.refl wr.heap.size wr).alloc (Nat.le_refl _) (.cells #[.int .u8 y] 5))).app (x := .slice (some ⟨wr.heap.size, 0, none⟩) 1 1) (m := [y]) (sl_const wr [y] (by simp) 5 (0, 0) (by simp)) (fun z hz => by rw [List.mem_singleton.1 hz]; exact ⟨h0, h1⟩) hb
  obtain ⟨x, c, rfl⟩ := ho.form
  exact ⟨x, c, w', hr, ho⟩

/-- How many bytes 0 stand behind the mark. -/
def zn (n : Nat) : Nat := (120 - (n + 1) % 64) % 64
theorem zn_mod (n z : Nat) (hz : z ≤ zn n) : (n + 1 + z) % 64 = 56 ↔ z = zn n := by unfold zn at *; omega
theorem zn_lt (n : Nat) : zn n < 64 := by unfold zn; omega
/-- The length of a slice. -/
def slLen : Value → Nat
  | .slice _ n _ => n
  | _ => 0

/-- The message behind z bytes 0; behind j bytes of its length. -/
def msg0 (l : List Int) (z : Nat) : List Int := l ++ [128] ++ List.replicate z 0
def msg1 (l : List Int) (j : Nat) : List Int := msg0 l (zn l.length) ++ (Sha.hi8 (8 * l.length)).take j
theorem msg0_succ (l : List Int) (z : Nat) : msg0 l (z + 1) = msg0 l z ++ [0] := by
  unfold msg0; rw [List.replicate_succ']; simp only [List.append_assoc]
theorem msg1_succ (l : List Int) (j : Nat) (hj : j < 8) : msg1 l (j + 1) = msg1 l j ++ [(Sha.hi8 (8 * l.length)).getD j 0] := by
  unfold msg1
  have hl : j < (Sha.hi8 (8 * l.length)).length := hj
  rw [List.take_succ_eq_append_getElem hl, List.getD_eq_getElem?_getD, List.getElem?_eq_getElem hl, List.append_assoc]
  rfl
theorem msg1_8 (l : List Int) : msg1 l 8 = Sha.whole l := rfl

theorem OfW.open {w wr : World} {x : Option Addr} {n c : Nat} {l : List Int} (h : OfW w wr (.slice x n c) n l) (hn : 0 < n) (hb : n ≤ 140737488355328) :
    ∃ g, x = some ⟨g, 0, none⟩ ∧ n ≤ c ∧ g < wr.heap.size ∧ ∀ i, i < n → wr.cell? ⟨g, i, none⟩ = some (.int .u8 (l.getD i 0)) := by
  have ho := h.own
  rw [← h.len] at ho
  have hs := own_sl (v := .slice x n c) (by rw [h.len] at ho ⊢; exact ho) (by rw [h.len]; exact hb)
  rcases h.own.2 with ⟨_, h0⟩ | ⟨g, cap, cur, hv, _, _, hc, _⟩
  · omega
  · cases hv
    refine ⟨g, rfl, hc, ?_⟩
    rcases hs with ⟨hl, _⟩ | ⟨g', off, cap', hv, _, _, _, hg, hcell⟩
    · rw [← h.len, hl] at hn; exact absurd hn (by simp)
    · simp only [Value.slice.injEq, Option.some.injEq, Addr.mk.injEq, and_true] at hv
      obtain ⟨⟨rfl, rfl⟩, _, rfl⟩ := hv
      refine ⟨hg, fun i hi => ?_⟩
      have := hcell i (by rw [h.len]; exact hi)
      rwa [Nat.zero_add] at this

structure NrW (w1 w2 : World) (hl kl : List Value) : Prop where
  bel : Below w1.heap.size w1 w2
  h : Row w2 w1.heap.size 62 hl
  k : Row w2 (w1.heap.size + 1) 64 kl
theorem NrW.make (w1 : World) (hl : List Value) : NrW w1 (((w1.alloc (.cells (ws (List.replicate 8 0#32)).toArray 62)).alloc (.cells (ws (List.replicate 64 0#32)).toArray 64)).setRow w1.heap.size hl.toArray) hl (ws (List.replicate 64 0#32)) := by
  have a1 := Row.new w1 62 (ws (List.replicate 8 0#32))
  have a2 := Row.new (w1.alloc (.cells (ws (List.replicate 8 0#32)).toArray 62)) 64 (ws (List.replicate 64 0#32))
  simp only [World.size_alloc] at a2
  exact ⟨below_setRow (((Below.refl _ _).alloc (Nat.le_refl _) _).alloc (by simp) _) _ _ (Nat.le_refl _), (a1.alloc _).put, a2.putOther (by omega)⟩
theorem NrW.put {w1 w2 : World} {hl kl : List Value} (h : NrW w1 w2 hl kl) (vs : List Value) : NrW w1 (w2.setRow (w1.heap.size + 1) vs.toArray) hl vs :=
  ⟨below_setRow h.bel _ _ (Nat.le_succ _), h.h.putOther (by omega), h.k.put⟩

/-- The words, block by block. -/
structure BkW (w5 wr : World) (r : Sha.R) : Prop where
  bel : Below w5.heap.size w5 wr
  s : Row wr w5.heap.size 62 (ws r.list)
  k : Row wr (w5.heap.size + 1) 64 (ws Sha.K)

theorem BkW.step {w5 wr w' : World} {r : Sha.R} (h : BkW w5 wr r) (k : Below wr.heap.size wr w') : BkW w5 w' r :=
  ⟨below_below h.bel k, h.s.keep k h.s.lt, h.k.keep k h.k.lt⟩
theorem BkW.drew {w5 wr : World} {r : Sha.R} (h : BkW w5 wr r) : BkW w5 wr.drew r := ⟨h.bel.drew, h.s.drew, h.k.drew⟩
theorem BkW.put {w5 wr : World} {r q : Sha.R} (h : BkW w5 wr r) : BkW w5 (wr.setRow w5.heap.size (ws q.list).toArray) q :=
  ⟨below_setRow h.bel _ _ (Nat.le_refl _), h.s.put, h.k.putOther (by omega)⟩

/-- The bytes that are handed back. -/
structure FiW (w6 wr : World) (l : List Int) : Prop where
  bel : Below w6.heap.size w6 wr
  out : Row wr w6.heap.size 24 (bs l)
  len : l.length = 32

theorem FiW.set {w6 wr : World} {l : List Int} (h : FiW w6 wr l) (i : Nat) (x : Int) : FiW w6 (wr.setCell ⟨w6.heap.size, i, none⟩ (.int .u8 x)) (l.set i x) :=
  ⟨below_setCell h.bel _ _ (Nat.le_refl _), by rw [← bs_set]; exact h.out.set _ _, by rw [List.length_set]; exact h.len⟩

set_option maxRecDepth 100000 in
set_option maxHeartbeats 2000000 in
theorem rof_ok {w : World} {v : Value} {l : List Int} (hv : Sl w v l) (hl : l.length ≤ 70368744177664) (hb : Byt l) :
    Calls Tryd.prog 23 #[v] w fun e w' => DigEnd w (Sha.dig l) e w' := by
  obtain ⟨xa, xc, rfl⟩ : ∃ x c, v = .slice x l.length c := by
    rcases hv with ⟨rfl, x, cap, rfl⟩ | ⟨g, off, cap, rfl, _⟩
    · exact ⟨x, cap, rfl⟩
    · exact ⟨_, _, rfl⟩
  have HV := hd hv
  have HB := hd hb
  have hm : ∃ m, l.length = m := ⟨_, rfl⟩
  obtain ⟨m, hm⟩ := hm
  rw [hm] at hv HV hl
  have HM := hd hm
  rw [hm]
  clear hv hb hm
  have n8 : IntKind.u64.wrap ((m : Int) * 8) = ((8 * m : Nat) : Int) := by rw [IntKind.wrap_u64]; omega
  have cv : IntKind.u64.wrap (m : Int) = (m : Int) := by rw [IntKind.wrap_u64]; omega
  obtain ⟨ν, hν⟩ : ∃ ν, ((8 * m : Nat) : Int) = ν := ⟨_, rfl⟩
  rw [hν] at n8
  have HNU := hd hν
  clear hν
  have N0 : Hid (OfW w (w.alloc (.cells (bs (List.replicate 32 0)).toArray 24)) (.slice none 0 0) 0 []) := ⟨(Below.refl _ _).alloc (Nat.le_refl _) _, Row.new w 24 _, World.ownsRow_nil _ _ _ _, rfl, Byt.nil⟩
  obtain ⟨v1, w1, r1, o1⟩ := N0.out.app (HV.out.keep ((Below.refl _ _).alloc (Nat.le_refl _) _)) HB.out (by rw [HM.out]; omega)
  rw [HM.out, Nat.zero_add, List.nil_append] at o1
  obtain ⟨x2, c2, w2, r2, o2⟩ := o1.one 128 (by decide) (by decide) (by omega)
  have O2 : Hid (OfW w w2 (.slice x2 (m + 1) c2) (m + 1) (msg0 l 0)) := hd (by unfold msg0; rw [List.replicate_zero, List.append_nil]; exact o2)
  have R1 := hd r1
  have R2 := hd r2
  clear r1 r2 o1 o2 N0
  go_enter Tryd.func23, Tryd.ntmps23
  go_wp2_with (first
    | (at_builtin; refine wpList_append_run _ rfl _ _ _ _ rfl _ _ rfl rfl v1 w1 R1.out ?_; clear R1)
    | (at_builtin; refine wpList_append_run _ rfl _ _ _ _ rfl _ _ rfl rfl (.slice x2 (m + 1) c2) w2 R2.out ?_; clear R2))
  generalize hx1 : w1.heap.size = s1
  clear hx1
  go_loopw [3] (fun v wr => ∃ (z : Nat) (x : Option Addr) (c : Nat), z ≤ zn m ∧ v = .slice x (m + 1 + z) c ∧ OfW w wr v (m + 1 + z) (msg0 l z)) (fun v _ => m + 1 + zn m - slLen v)
  case atStart => exact ⟨0, x2, c2, Nat.zero_le _, rfl, O2.out⟩
  case round =>
    clear O2
    obtain ⟨z, x, c, hz, rfl, ho⟩ := hrel
    have HO := hd ho
    clear ho
    have hzl := zn_lt m
    have hz6 := zn_mod m z hz
    have e1 : ((m + 1 + z : Nat) : Int).tmod 64 = (((m + 1 + z) % 64 : Nat) : Int) := by rw [Int.tmod_eq_emod_of_nonneg (by omega)]; omega
    by_cases hzz : z = zn m
    · have e2 : ((m + 1 + z : Nat) : Int).tmod 64 = 56 := by rw [e1, hz6.2 hzz]; rfl
      have HW : Hid (OfW w wr (.slice x (m + 1 + z) c) (m + 1 + z) (msg1 l 0)) := hd (by
        unfold msg1
        rw [List.take_zero, List.append_nil, HM.out, ← hzz]
        exact HO.out)
      have HZ : Hid (m + 1 + z + 8 = (Sha.whole l).length ∧ (m + 1 + z + 8) % 64 = 0 ∧ m + 1 + z + 8 ≤ 140737488355320) := hd (by
        refine ⟨?_, by have := hz6.2 hzz; omega, by omega⟩
        rw [← msg1_8]
        unfold msg1 msg0
        simp only [List.length_append, List.length_replicate, List.length_cons, List.length_nil, HM.out, ← hzz]
        rfl)
      clear HO e1 hz6 hzz hz hzl
      generalize m + 1 + z = y at *
      go_wp2_with fail
      go_loopw [3, 5] (fun v i wr => ∃ (j D : Nat) (x : Option Addr) (c : Nat), j + D = 8 ∧ v = .slice x (y + j) c ∧ i = .int .i64 ((D : Int) - 1) ∧ OfW w wr v (y + j) (msg1 l j)) (fun _ i _ => (intOf i + 1).toNat)
      case atStart => exact ⟨0, 8, x, c, rfl, rfl, rfl, HW.out⟩
      case round =>
        clear HW
        obtain ⟨j, D, x, c, hjd, rfl, rfl, ho⟩ := hrel
        have HO := hd ho
        clear ho
        match D with
        | 0 =>
          have hj : j = 8 := by omega
          subst hj
          rw [msg1_8] at HO
          generalize y + 8 = n at *
          obtain ⟨hn1, hn2, hn3⟩ := HZ.out
          have hn0 : 0 < n := by
            rw [hn1, ← msg1_8]
            unfold msg1
            simp [hi8_len]
          obtain ⟨g, rfl, hnc, hg, hcell⟩ := HO.out.open hn0 (by omega)
          have HXC := hd hcell
          have HG := hd hg
          have HXB := hd HO.out.byt
          have HRES := hd HO.out.res
          have HBE := hd HO.out.bel
          have HXL := hd HO.out.len
          have HDG : Hid (Sha.dig l = Sha.b32 (Sha.td (Sha.whole l))) := rfl
          clear hcell hg HO HZ hn1
          generalize Sha.whole l = X at *
          go_wp2_with fail
          refine (rrows_ok wr).mono ?_
          rintro e w5 ⟨rfl, hb5⟩
          have HXC5 : Hid (∀ i, i < n → w5.cell? ⟨g, i, none⟩ = some (.int .u8 (X.getD i 0))) := hd (fun i hi => by
            rw [(kpB hb5 (fun _ => False)).cell (p := ⟨g, i, none⟩) HG.out (fun h => h)]
            exact HXC.out i hi)
          have HG5 : Hid (g < w5.heap.size) := hd (Nat.lt_of_lt_of_le HG.out hb5.size)
          have HRES5 := hd (HRES.out.keep hb5 HRES.out.lt)
          have HBE5 := hd (below_below HBE.out hb5)
          clear hb5 HXC HG HRES HBE
          have LH : Hid ((ws Sha.H.list).length = 8) := rfl
          have LK : Hid ((ws Sha.K).length = 64) := rfl
          have OH := hd (ws_one Sha.H.list)
          have OK := hd (ws_one Sha.K)
          have HH0 : Hid (ws Sha.H.list = ws (Sha.upb X 0).list) := rfl
          generalize hhl : ws Sha.H.list = hl' at *
          clear hhl
          generalize hkl : ws Sha.K = kl at *
          have HKL := hd hkl
          clear hkl
          go_wp2_with (first
            | (refine wpList_store_row rfl 62 _ _ rfl w5.heap.size hl'.toArray rfl rfl 62 _ ((Row.new w5 62 (ws (List.replicate 8 0#32))).alloc _) (by rw [List.size_toArray, LH.out]; exact info42) (by rw [List.size_toArray, List.size_toArray, LH.out, ws_len, List.length_replicate]) OH.out ?_
               generalize hw2 : World.setRow _ _ _ = w6
               have S2 : Hid (NrW w5 w6 hl' (ws (List.replicate 64 0#32))) := hd (hw2 ▸ NrW.make w5 hl')
               clear hw2)
            | (refine wpList_store_row rfl 64 _ _ rfl (w5.heap.size + 1) kl.toArray rfl rfl 64 _ S2.out.k (by rw [List.size_toArray, LK.out]; exact info44) (by rw [List.size_toArray, List.size_toArray, LK.out, ws_len, List.length_replicate]) OK.out ?_
               generalize hw3 : World.setRow _ _ _ = w7
               have S3 : Hid (NrW w5 w7 hl' kl) := hd (hw3 ▸ S2.out.put kl)
               clear hw3 S2))
          have B0 : Hid (BkW w5 w7 (Sha.upb X 0)) := hd ⟨S3.out.bel, by rw [← HH0.out]; exact S3.out.h, by rw [HKL.out]; exact S3.out.k⟩
          clear S3 HH0
          go_loopw [8] (fun i wr => ∃ k : Nat, 64 * k ≤ n ∧ i = .int .i64 ((64 * k : Nat) : Int) ∧ BkW w5 wr (Sha.upb X k)) (fun i _ => n - (intOf i).toNat)
          case atStart => exact ⟨0, Nat.zero_le _, rfl, B0.out⟩
          case round =>
            clear B0
            obtain ⟨k, hk, rfl, hs⟩ := hrel
            have HS := hd hs
            clear hs
            by_cases hlt : 64 * k < n
            · have hle : 64 * k + 64 ≤ n := by omega
              have HN : Hid (Sha.upb X (k + 1) = Sha.sum (Sha.upb X k) (Sha.times Sha.K (Sha.spread ((X.drop (64 * k)).take 64)) (Sha.upb X k) 64)) := rfl
              have HK1 : Hid (64 * (k + 1) = 64 * k + 64) := rfl
              have HWC : Hid (∀ i, i < 64 → w5.cell? ⟨g, 64 * k + i, none⟩ = some (.int .u8 (((X.drop (64 * k)).take 64).getD i 0))) := hd (fun i hi => by
                rw [HXC5.out (64 * k + i) (by omega), List.getD_eq_getElem?_getD, List.getD_eq_getElem?_getD, List.getElem?_take_of_lt hi, List.getElem?_drop])
              have HWL : Hid (((X.drop (64 * k)).take 64).length = 64) := hd (by rw [List.length_take, List.length_drop, HXL.out]; omega)
              have HWB : Hid (Byt ((X.drop (64 * k)).take 64)) := hd ((HXB.out.drop _).take _)
              generalize (X.drop (64 * k)).take 64 = bl at *
              generalize Sha.upb X k = q at *
              generalize 64 * k = at_ at *
              have hlt' : (at_ : Int) < (n : Int) := by omega
              have i1 : IntKind.i64.wrap ((at_ : Int) + 64) = ((at_ + 64 : Nat) : Int) := by rw [IntKind.wrap_i64]; omega
              have i5 : at_ + 64 - at_ = 64 := by omega
              have i6 : at_ + 64 ≤ c := by omega
              have i7 : at_ ≤ at_ + 64 := by omega
              generalize hte : at_ + 64 = te at *
              have HTE := hd hte
              clear hte
              have i2 : (te : Int) ≤ (c : Int) := by omega
              have i3 : (at_ : Int) ≤ (te : Int) := by omega
              have i4 : (at_ : Int) ≤ (c : Int) := by omega
              have i8 : ¬ (c = at_) := by have := HTE.out; omega
              have WD : Hid (∀ W, Below w5.heap.size w5 W → Calls Tryd.prog 38 #[.slice (some ⟨g, at_, none⟩) 64 (c - at_)] W fun e w' => e = .returned (.agg (ws (Sha.spread bl)).toArray) ∧ Below W.heap.size W w') := hd (fun W hb => words_ok g at_ (c - at_) W bl HWL.out HWB.out (Nat.lt_of_lt_of_le HG5.out hb.size) (by have := HTE.out; omega) (fun i hi => by
                rw [(kpB hb (fun _ => False)).cell (p := ⟨g, at_ + i, none⟩) HG5.out (fun h => h)]
                exact HWC.out i hi))
              have TI : Hid (∀ W, Calls Tryd.prog 37 #[.agg (ws q.list).toArray, .agg (ws (Sha.spread bl)).toArray, .agg kl.toArray] W fun e w' => e = .returned (.agg (ws (Sha.upb X (k + 1)).list).toArray) ∧ Below W.heap.size W w') := hd (fun W => by
                rw [HN.out, ← HKL.out]
                exact rtie_ok W q Sha.K (Sha.spread bl) rfl (Sha.spread_len bl))
              generalize hnq : Sha.upb X (k + 1) = nq' at *
              have HNQ := hd hnq
              clear hnq
              have LQ : Hid ((ws q.list).length = 8) := rfl
              have LN : Hid ((ws nq'.list).length = 8) := rfl
              have ON := hd (ws_one nq'.list)
              clear HWC HWL HWB HN
              go_wp2_with fail
              have SK : Hid (Row wr (w5.heap.size + 1) 64 kl) := hd (by rw [← HKL.out]; exact HS.out.k)
              have HSD := hd HS.out.drew
              refine wp_region_held_drew (S := fun W => Row W (w5.heap.size + 1) 64 kl) (by kernel_rfl) SK.out.drew (fun hHeld => ?_)
              refine wpAnyH_take (i := 1) (oi := { dst := some 49, op := Op.move (Operand.tmp 3), type := 22, pos := "ref.go:120", after := #[], guard := none }) (v := ?_) rfl (by kernel_rfl) (by kernel_rfl) (by kernel_rfl) (fun _ _ _ h => h) (Or.inl ⟨by rfl, ?_⟩) hHeld ?_
              case refine_2 => intro w hSw; go_simp; try with_reducible rfl
              try simp only [Act.put, List.setIfInBounds_toArray, List.set_cons_zero, List.set_cons_succ]
              refine wpAnyH_take (i := 2) (oi := { dst := some 50, op := Op.move (Operand.tmp 8), type := 3, pos := "ref.go:120", after := #[], guard := none }) (v := ?_) rfl (by kernel_rfl) (by kernel_rfl) (by kernel_rfl) (fun _ _ _ h => h) (Or.inl ⟨by rfl, ?_⟩) hHeld ?_
              case refine_2 => intro w hSw; go_simp; try with_reducible rfl
              try simp only [Act.put, List.setIfInBounds_toArray, List.set_cons_zero, List.set_cons_succ]
              refine wpAnyH_take (i := 3) (oi := { dst := some 51, op := Op.move (Operand.tmp 8), type := 3, pos := "ref.go:120", after := #[], guard := none }) (v := ?_) rfl (by kernel_rfl) (by kernel_rfl) (by kernel_rfl) (fun _ _ _ h => h) (Or.inl ⟨by rfl, ?_⟩) hHeld ?_
              case refine_2 => intro w hSw; go_simp; try with_reducible rfl
              try simp only [Act.put, List.setIfInBounds_toArray, List.set_cons_zero, List.set_cons_succ]
              refine wpAnyH_take (i := 4) (oi := { dst := some 52, op := Op.binOp BinOp.add 3 (Operand.tmp 51) (Operand.const (Value.int IntKind.i64 64)) 3, type := 3, pos := "ref.go:120", after := #[{ on := 3, ground := Ground.data }], guard := none }) (v := ?_) rfl (by kernel_rfl) (by kernel_rfl) (by kernel_rfl) (fun _ _ _ h => h) (Or.inl ⟨by rfl, ?_⟩) hHeld ?_
              case refine_2 => intro w hSw; go_simp; try with_reducible rfl
              try simp only [Act.put, List.setIfInBounds_toArray, List.set_cons_zero, List.set_cons_succ]
              refine wpAnyH_take (i := 5) (oi := { dst := some 53, op := Op.slice 22 (Operand.tmp 49) (some (Operand.tmp 50)) (some (Operand.tmp 52)) none, type := 22, pos := "ref.go:120", after := #[{ on := 1, ground := Ground.data }, { on := 2, ground := Ground.data }, { on := 4, ground := Ground.data }], guard := none }) (v := ?_) rfl (by kernel_rfl) (by kernel_rfl) (by kernel_rfl) (fun _ _ _ h => h) (Or.inl ⟨by rfl, ?_⟩) hHeld ?_
              case refine_2 => intro w hSw; go_simp; try with_reducible rfl
              try simp only [Act.put, List.setIfInBounds_toArray, List.set_cons_zero, List.set_cons_succ]
              refine wpAnyH_take (i := 7) (oi := { dst := some 55, op := Op.load 64 (Operand.tmp 7), type := 64, pos := "ref.go:120", after := #[], guard := none }) (v := .agg kl.toArray) rfl (by kernel_rfl) (by kernel_rfl) (by kernel_rfl) (fun _ _ _ h => h) (yields_row (by rfl) 64 _ rfl (w5.heap.size + 1) rfl 64 kl _ (fun _ h => h) und44 rfl (by rw [LK.out]; exact info44)) hHeld ?_
              try simp only [Act.put, List.setIfInBounds_toArray, List.set_cons_zero, List.set_cons_succ]
              refine wpAnyH_ready (rs := [0, 6]) (by kernel_rfl) (by simp) ?_
              refine AllReadyH.cons (o := { dst := some 48, op := Op.load 62 (Operand.tmp 6), type := 62, pos := "ref.go:120", after := #[], guard := none }) rfl (fun K hK => ?_) (AllReadyH.cons (o := { dst := some 54, op := Op.call { callee := Callee.value (Operand.func 38), args := #[Operand.tmp 53], argTypes := #[22] }, type := 64, pos := "ref.go:120", after := #[{ on := 5, ground := Ground.data }], guard := none }) rfl (fun K hK => ?_) AllReadyH.nil)
              · rw [if_pos (by rfl)]
                refine wp_load_row 62 _ rfl w5.heap.size rfl 62 (ws q.list).toArray (0, 0) _ HSD.out.s und42' rfl (by rw [List.size_toArray, LQ.out]; exact info42) ?_
                refine hK.out _ _ hHeld (fun hHeld => ?_)
                clear hK K
                try simp only [Act.put, List.setIfInBounds_toArray, List.set_cons_zero, List.set_cons_succ]
                refine wpAnyH_ready (rs := [6]) (by kernel_rfl) (by simp) ?_
                refine AllReadyH.cons (o := { dst := some 54, op := Op.call { callee := Callee.value (Operand.func 38), args := #[Operand.tmp 53], argTypes := #[22] }, type := 64, pos := "ref.go:120", after := #[{ on := 5, ground := Ground.data }], guard := none }) rfl (fun K hK => ?_) AllReadyH.nil
                go_simp
                refine (WD.out _ HSD.out.bel).mono ?_
                rintro e wa ⟨rfl, hb⟩
                have HSA := hd (HSD.out.step hb)
                clear hb
                go_wp2_with fail
                refine hK.out _ _ (by rw [← HKL.out]; exact HSA.out.k) (fun hHeld => ?_)
                clear hK K
                try simp only [Act.put, List.setIfInBounds_toArray, List.set_cons_zero, List.set_cons_succ]
                refine wpAnyH_ready (rs := [8]) (by kernel_rfl) (by simp) ?_
                refine AllReadyH.cons (o := { dst := some 56, op := Op.call { callee := Callee.value (Operand.func 37), args := #[Operand.tmp 48, Operand.tmp 54, Operand.tmp 55], argTypes := #[62, 64, 64] }, type := 62, pos := "ref.go:120", after := #[{ on := 0, ground := Ground.data }, { on := 6, ground := Ground.data }, { on := 7, ground := Ground.data }, { on := 6, ground := Ground.chain }], guard := none }) rfl (fun K hK => ?_) AllReadyH.nil
                go_simp
                refine (TI.out _).mono ?_
                rintro e wt ⟨rfl, hb⟩
                have HST := hd (HSA.out.step hb)
                clear hb
                go_wp2_with fail
                refine hK.out _ _ (by rw [← HKL.out]; exact HST.out.k) (fun hHeld => ?_)
                clear hK K
                try simp only [Act.put, List.setIfInBounds_toArray, List.set_cons_zero, List.set_cons_succ]
                refine wpAnyH_ready (rs := [9]) (by kernel_rfl) (by simp) ?_
                refine AllReadyH.cons (o := { dst := none, op := Op.store 62 (Operand.tmp 6) (Operand.tmp 56), type := 0, pos := "ref.go:120", after := #[{ on := 8, ground := Ground.data }, { on := 8, ground := Ground.chain }, { on := 0, ground := Ground.phase }, { on := 1, ground := Ground.phase }, { on := 2, ground := Ground.phase }, { on := 3, ground := Ground.phase }, { on := 4, ground := Ground.phase }, { on := 5, ground := Ground.phase }, { on := 6, ground := Ground.phase }, { on := 7, ground := Ground.phase }, { on := 8, ground := Ground.phase }], guard := none }) rfl (fun K hK => ?_) AllReadyH.nil
                refine step_store_row rfl 62 _ _ rfl w5.heap.size (ws nq'.list) rfl rfl 62 8 ⟨_, LQ.out, HST.out.s⟩ LN.out info42 ON.out ?_
                have HSE : Hid (BkW w5 (wt.setRow w5.heap.size (ws nq'.list).toArray) nq') := hd HST.out.put
                refine hK.out _ _ (by rw [← HKL.out]; exact HSE.out.k) (fun hHeld => ?_)
                clear hK K
                generalize wt.setRow w5.heap.size (ws nq'.list).toArray = wz at *
                refine wpAnyH_done (by kernel_rfl) ?_ _
                go_wp2_with fail
                go_roundw
                case rel => exact ⟨k + 1, by have := HK1.out; have := HTE.out; omega, by rw [HK1.out], by rw [HNQ.out]; exact HSE.out⟩
                case measure => have := HTE.out; simp [intOf]; omega
              · go_simp
                refine (WD.out _ HSD.out.bel).mono ?_
                rintro e wa ⟨rfl, hb⟩
                have HSA := hd (HSD.out.step hb)
                clear hb
                go_wp2_with fail
                refine hK.out _ _ (by rw [← HKL.out]; exact HSA.out.k) (fun hHeld => ?_)
                clear hK K
                try simp only [Act.put, List.setIfInBounds_toArray, List.set_cons_zero, List.set_cons_succ]
                refine wpAnyH_ready (rs := [0]) (by kernel_rfl) (by simp) ?_
                refine AllReadyH.cons (o := { dst := some 48, op := Op.load 62 (Operand.tmp 6), type := 62, pos := "ref.go:120", after := #[], guard := none }) rfl (fun K hK => ?_) AllReadyH.nil
                rw [if_pos (by rfl)]
                refine wp_load_row 62 _ rfl w5.heap.size rfl 62 (ws q.list).toArray (0, 0) _ HSA.out.s und42' rfl (by rw [List.size_toArray, LQ.out]; exact info42) ?_
                refine hK.out _ _ hHeld (fun hHeld => ?_)
                clear hK K
                try simp only [Act.put, List.setIfInBounds_toArray, List.set_cons_zero, List.set_cons_succ]
                refine wpAnyH_ready (rs := [8]) (by kernel_rfl) (by simp) ?_
                refine AllReadyH.cons (o := { dst := some 56, op := Op.call { callee := Callee.value (Operand.func 37), args := #[Operand.tmp 48, Operand.tmp 54, Operand.tmp 55], argTypes := #[62, 64, 64] }, type := 62, pos := "ref.go:120", after := #[{ on := 0, ground := Ground.data }, { on := 6, ground := Ground.data }, { on := 7, ground := Ground.data }, { on := 6, ground := Ground.chain }], guard := none }) rfl (fun K hK => ?_) AllReadyH.nil
                go_simp
                refine (TI.out _).mono ?_
                rintro e wt ⟨rfl, hb⟩
                have HST := hd (HSA.out.step hb)
                clear hb
                go_wp2_with fail
                refine hK.out _ _ (by rw [← HKL.out]; exact HST.out.k) (fun hHeld => ?_)
                clear hK K
                try simp only [Act.put, List.setIfInBounds_toArray, List.set_cons_zero, List.set_cons_succ]
                refine wpAnyH_ready (rs := [9]) (by kernel_rfl) (by simp) ?_
                refine AllReadyH.cons (o := { dst := none, op := Op.store 62 (Operand.tmp 6) (Operand.tmp 56), type := 0, pos := "ref.go:120", after := #[{ on := 8, ground := Ground.data }, { on := 8, ground := Ground.chain }, { on := 0, ground := Ground.phase }, { on := 1, ground := Ground.phase }, { on := 2, ground := Ground.phase }, { on := 3, ground := Ground.phase }, { on := 4, ground := Ground.phase }, { on := 5, ground := Ground.phase }, { on := 6, ground := Ground.phase }, { on := 7, ground := Ground.phase }, { on := 8, ground := Ground.phase }], guard := none }) rfl (fun K hK => ?_) AllReadyH.nil
                refine step_store_row rfl 62 _ _ rfl w5.heap.size (ws nq'.list) rfl rfl 62 8 ⟨_, LQ.out, HST.out.s⟩ LN.out info42 ON.out ?_
                have HSE : Hid (BkW w5 (wt.setRow w5.heap.size (ws nq'.list).toArray) nq') := hd HST.out.put
                refine hK.out _ _ (by rw [← HKL.out]; exact HSE.out.k) (fun hHeld => ?_)
                clear hK K
                generalize wt.setRow w5.heap.size (ws nq'.list).toArray = wz at *
                refine wpAnyH_done (by kernel_rfl) ?_ _
                go_wp2_with fail
                go_roundw
                case rel => exact ⟨k + 1, by have := HK1.out; have := HTE.out; omega, by rw [HK1.out], by rw [HNQ.out]; exact HSE.out⟩
                case measure => have := HTE.out; simp [intOf]; omega
            · obtain ⟨w9, h9⟩ : ∃ w9, w9 = wr := ⟨_, rfl⟩
              subst h9
              have hkn : 64 * k = n := by omega
              have HTD : Hid (Sha.upb X k = Sha.td X) := hd (by
                unfold Sha.td
                rw [HXL.out, show n / 64 = k by omega])
              rw [HTD.out] at HS
              generalize Sha.td X = q at *
              have hlt' : ¬ (((64 * k : Nat) : Int) < (n : Int)) := by omega
              have F0 : Hid (FiW w9 (w9.alloc (.cells (bs (List.replicate 32 0)).toArray 24)) (Sha.upto (Sha.b32 q) 32 0)) := ⟨(Below.refl _ _).alloc (Nat.le_refl _) _, Row.new w9 24 _, rfl⟩
              have HSS := hd HS.out.s
              have HR6 := hd (HRES5.out.keep HS.out.bel HRES5.out.lt)
              have HB6 := hd (below_below HBE5.out HS.out.bel)
              clear HS HTD HXC5 HXL HRES5 HBE5
              generalize 64 * k = at_ at *
              go_wp2_with fail
              change Code.wp _ _ _ _ (w9.alloc (.cells (bs (List.replicate 32 0)).toArray 24))
              generalize w9.alloc (.cells (bs (List.replicate 32 0)).toArray 24) = w7 at *
              go_loopw [10] (fun i wx => ∃ k : Nat, k ≤ 32 ∧ i = .int .i64 (k : Int) ∧ FiW w9 wx (Sha.upto (Sha.b32 q) 32 k)) (fun i _ => 32 - (intOf i).toNat)
              case atStart => exact ⟨0, Nat.zero_le _, rfl, F0.out⟩
              case round =>
                clear F0
                obtain ⟨k, hk, rfl, hs⟩ := hrel
                have HS := hd hs
                clear hs
                by_cases hlt : k < 32
                · have hlt' : (k : Int) < 32 := by omega
                  have HE := hd (upto_set (Sha.b32 q) 32 k rfl hlt)
                  rw [b32_at q k hlt] at HE
                  have c1 := HS.out.out.cell k (.int .u8 0) (by rw [bs_len, HS.out.len]; omega)
                  have f1 := HS.out.out.frozen k
                  generalize (bs (Sha.upto (Sha.b32 q) 32 k)).getD k (.int .u8 0) = old at c1
                  have c2 := (HSS.out.keep HS.out.bel HSS.out.lt).word (k / 4) (by show k / 4 < 8; omega)
                  generalize (Sha.at_ q.list (k / 4)).toNat = x at *
                  have e0 : (k : Int).tdiv 4 = ((k / 4 : Nat) : Int) := by rw [Int.tdiv_eq_ediv_of_nonneg (by omega)]; omega
                  have e1 : (k : Int).tmod 4 = ((k % 4 : Nat) : Int) := by rw [Int.tmod_eq_emod_of_nonneg (by omega)]; omega
                  have e2 : IntKind.i64.wrap (3 - ((k % 4 : Nat) : Int)) = ((3 - k % 4 : Nat) : Int) := by rw [IntKind.wrap_i64]; omega
                  have e3 : IntKind.i64.wrap (8 * ((3 - k % 4 : Nat) : Int)) = ((8 * (3 - k % 4) : Nat) : Int) := by rw [IntKind.wrap_i64]; omega
                  have e4 : (x : Int) / 2 ^ (((8 * (3 - k % 4) : Nat) : Int)).toNat = ((x / 2 ^ (8 * (3 - k % 4)) : Nat) : Int) := by rw [Int.toNat_natCast, Int.natCast_ediv, Int.natCast_pow]; rfl
                  have e5 : IntKind.u8.wrap ((x / 2 ^ (8 * (3 - k % 4)) : Nat) : Int) = ((x / 2 ^ (8 * (3 - k % 4)) % 256 : Nat) : Int) := by rw [IntKind.wrap_u8]; omega
                  have b1 : (0 : Int) ≤ ((8 * (3 - k % 4) : Nat) : Int) := by omega
                  have b2 : ((8 * (3 - k % 4) : Nat) : Int) ≤ 32 := by omega
                  have b3 : ((k / 4 : Nat) : Int) < 8 := by omega
                  generalize ((x / 2 ^ (8 * (3 - k % 4)) % 256 : Nat) : Int) = y at *
                  generalize ((x / 2 ^ (8 * (3 - k % 4)) : Nat) : Int) = z at *
                  generalize ((8 * (3 - k % 4) : Nat) : Int) = s1 at *
                  generalize ((3 - k % 4 : Nat) : Int) = s2 at *
                  generalize ((k % 4 : Nat) : Int) = s3 at *
                  generalize k / 4 = q4 at *
                  generalize (x : Int) = ξ at *
                  go_wp2_with fail
                  go_roundw
                  case rel => exact ⟨k + 1, by omega, by go_num, by rw [← HE.out]; exact HS.out.set _ _⟩
                  case measure => simp [intOf]; omega
                · have hk8 : k = 32 := by omega
                  subst hk8
                  rw [upto_all (Sha.b32 q) 32 rfl] at HS
                  generalize hz : Sha.b32 q = z at *
                  have HZ2 := hd hz
                  have LZ := hd HS.out.len
                  have HR7 := hd (HR6.out.keep HS.out.bel HR6.out.lt)
                  have HB7 := hd (below_below HB6.out HS.out.bel)
                  clear hz
                  go_wp2_with (first
                    | refine wpList_load_row rfl 24 _ rfl w9.heap.size rfl 24 (bs z).toArray (0, 0) _ HS.out.out und28 rfl (by rw [List.size_toArray, bs_len, LZ.out]; exact info28) ?_
                    | refine wpList_store_row rfl 24 _ _ rfl w.heap.size (bs z).toArray rfl rfl 24 _ HR7.out (by rw [List.size_toArray, bs_len, LZ.out]; exact info28) (by simp only [List.size_toArray, bs_len, LZ.out, List.length_replicate]) (bs_one z) ?_)
                  refine bodyPost_ret (v := .agg (bs z).toArray) ?_ rfl ⟨by rw [HDG.out], ?_⟩
                  · exact results_cell_row (P := Tryd.prog) (fn := Tryd.f23) (p := 2) (ty := 24) (by kernel_rfl) _ _ w.heap.size 24 (bs z).toArray (0, 0) _ rfl (HR7.out.put (us := bs z)) und28 rfl (by rw [List.size_toArray, bs_len, LZ.out]; exact info28)
                  · exact below_setRow HB7.out _ _ (Nat.le_refl _)
        | D + 1 =>
          have s1 : ((D + 1 : Nat) : Int) - 1 = (D : Int) := by omega
          rw [s1]
          have s2 : IntKind.i64.wrap ((D : Int) - 1) = (D : Int) - 1 := by rw [IntKind.wrap_i64]; omega
          have e3 : IntKind.i64.wrap (8 * (D : Int)) = ((8 * D : Nat) : Int) := by rw [IntKind.wrap_i64]; omega
          have e4 : ν / 2 ^ (((8 * D : Nat) : Int)).toNat = ((8 * m / 2 ^ (8 * D) : Nat) : Int) := by rw [← HNU.out, Int.toNat_natCast, Int.natCast_ediv, Int.natCast_pow]; rfl
          have e5 : IntKind.u8.wrap ((8 * m / 2 ^ (8 * D) : Nat) : Int) = ((8 * m / 2 ^ (8 * D) % 256 : Nat) : Int) := by rw [IntKind.wrap_u8]; omega
          have b1 : (0 : Int) ≤ ((8 * D : Nat) : Int) := by omega
          have b2 : ((8 * D : Nat) : Int) ≤ 64 := by omega
          have b3 : (0 : Int) ≤ ((8 * m / 2 ^ (8 * D) : Nat) : Int) := Int.natCast_nonneg _
          obtain ⟨x', c', w', hr, ho'⟩ := HO.out.one ((8 * m / 2 ^ (8 * D) % 256 : Nat) : Int) (Int.natCast_nonneg _) (by have := Nat.mod_lt (8 * m / 2 ^ (8 * D)) (show 0 < 256 by decide); omega) (by have := HZ.out; omega)
          have HO' : Hid (OfW w w' (.slice x' (y + (j + 1)) c') (y + (j + 1)) (msg1 l (j + 1))) := hd (by
            rw [msg1_succ l j (by omega), HM.out, show j = 7 - D by omega, hi8_at (8 * m) D (by omega), show 7 - D = j by omega]
            exact ho')
          have HX : Hid (y + j + 1 = y + (j + 1)) := rfl
          have HR := hd hr
          clear hr ho' HO
          generalize ((8 * m / 2 ^ (8 * D) % 256 : Nat) : Int) = β at *
          generalize ((8 * m / 2 ^ (8 * D) : Nat) : Int) = ζ at *
          generalize ((8 * D : Nat) : Int) = σ at *
          generalize y + j = yj at *
          go_wp2_with (at_builtin; refine wpList_append_run _ rfl _ _ _ _ rfl _ _ rfl rfl (.slice x' (yj + 1) c') w' HR.out ?_; clear HR)
          go_roundw
          case rel => exact ⟨j + 1, D, x', c', by omega, by rw [HX.out], by go_num, by rw [HX.out]; exact HO'.out⟩
          case measure => simp [intOf]
    · have e2 : (((m + 1 + z) % 64 : Nat) : Int) ≠ 56 := fun h => hzz (hz6.1 (by omega))
      have e3 : ((((m + 1 + z) % 64 : Nat) : Int) == 56) = false := by rw [beq_eq_false_iff_ne]; exact e2
      obtain ⟨x', c', w', hr, ho'⟩ := HO.out.one 0 (by decide) (by decide) (by omega)
      have HR := hd hr
      have HO' : Hid (OfW w w' (.slice x' (m + 1 + (z + 1)) c') (m + 1 + (z + 1)) (msg0 l (z + 1))) := hd (by rw [msg0_succ]; exact ho')
      have hlt : z < zn m := by omega
      have HX : Hid (m + 1 + z + 1 = m + 1 + (z + 1)) := rfl
      clear hr ho' HO hz6
      generalize (m + 1 + z) % 64 = r at *
      generalize hy : m + 1 + z = y at *
      have HY := hd hy
      clear hy
      go_wp2_with (at_builtin; refine wpList_append_run _ rfl _ _ _ _ rfl _ _ rfl rfl (.slice x' (y + 1) c') w' HR.out ?_; clear HR)
      go_roundw
      case rel => exact ⟨z + 1, x', c', hlt, by rw [HX.out], by rw [HX.out]; exact HO'.out⟩
      case measure => have := HY.out; simp [slLen]; omega
end Go.Proofs.YteefpbeglmnilaaDoor
