/- WaxSame: walk. -/
import Derived.Test.YteefpbeglmnilaaDoorWt
namespace Go.Proofs.YteefpbeglmnilaaDoor
open Go.RowKit
set_option linter.unusedVariables false

theorem byt_set {l : List Int} (h : Byt l) (i : Nat) (y : Int) (hy : 0 ≤ y ∧ y ≤ 255) : Byt (l.set i y) := fun x hx => by
  rcases List.mem_or_eq_of_mem_set hx with h1 | rfl
  · exact h x h1
  · exact hy
theorem set_same (l : List Int) (i : Nat) (hi : i < l.length) (y : Int) : l = l.set i y ↔ y = l.getD i 0 := by
  have hg : l.getD i 0 = l[i] := by rw [List.getD_eq_getElem?_getD, List.getElem?_eq_getElem hi]; rfl
  rw [hg]
  constructor
  · intro h
    have := congrArg (fun z => z[i]?) h
    simp only [List.getElem?_set_self hi, List.getElem?_eq_getElem hi, Option.some.injEq] at this
    exact this.symm
  · intro h
    subst h
    exact (List.set_getElem_self hi).symm
theorem wrap_same (x y : Int) (hx : 0 ≤ x ∧ x ≤ 255) (hy : 0 ≤ y ∧ y ≤ 255) : (IntKind.u8.wrap (x + y) = x ↔ y = 0) ∧ (0 ≤ IntKind.u8.wrap (x + y) ∧ IntKind.u8.wrap (x + y) ≤ 255) := by
  rw [IntKind.wrap_u8]
  omega
theorem longer (l : List Int) (x : Int) : ¬ l = l ++ [x] := fun h => by
  have := congrArg List.length h
  simp at this
theorem longer' (l : List Int) (x : Int) : ¬ l ++ [x] = l := fun h => longer l x h.symm

/-- Two rows of the call's own: what is written in the later one leaves the first. -/
theorem own_cell {w : World} {B n c : Nat} {x : Option Addr} {z : List Int} (h : w.ownsRow B 5 1 (.slice x n c) n (bs z)) (hn : z.length = n) (k : Nat) (hk : k < n) :
    ∃ g, x = some ⟨g, 0, none⟩ ∧ B ≤ g ∧ n ≤ c ∧ w.cell? ⟨g, k, none⟩ = some (.int .u8 (z.getD k 0)) ∧ w.frozen? ⟨g, k, none⟩ = false ∧ ∀ y, (w.setCell ⟨g, k, none⟩ (.int .u8 y)).ownsRow B 5 1 (.slice x n c) n (bs (z.set k y)) := by
  have h' := h
  rcases h.2 with ⟨_, h0⟩ | ⟨g, cap, cur, e, hB, hrow, hc, hm, hs, ht⟩
  · omega
  · injection e with e1 _ e3
    subst e1 e3
    rw [Nat.mul_one] at ht hs
    refine ⟨g, rfl, hB, hc, ?_, frozen_of_row w g k _ 5 hrow, fun y => ?_⟩
    · rw [cell_of_row w g k _ 5 (0, 0) hrow, ← Array.getElem?_toList, ← List.take_append_drop n cur.toList, ht, List.getElem?_append_left (by rw [bs_len, hn]; exact hk), bs, List.getElem?_map, List.getElem?_eq_getElem (by omega), List.getD_eq_getElem?_getD, List.getElem?_eq_getElem (by omega)]
      rfl
    · have := own_set (z := z) (by rw [hn]; exact h') k y
      rw [hn] at this
      exact this

theorem same_true {w : World} {u v : Value} {a b : List Int} (hu : Sl w u a) (hv : Sl w v b) (ba : Byt a) (bb : Byt b) (hla : a.length ≤ 140737488355328) (h : a = b) : Calls Tryd.prog 11 #[u, v] w fun e w' => e = .returned (.bool true) ∧ w' = w := by
  have := same_ok hu hv ba bb hla
  rw [decide_eq_true h] at this
  exact this
theorem same_false {w : World} {u v : Value} {a b : List Int} (hu : Sl w u a) (hv : Sl w v b) (ba : Byt a) (bb : Byt b) (hla : a.length ≤ 140737488355328) (h : ¬ a = b) : Calls Tryd.prog 11 #[u, v] w fun e w' => e = .returned (.bool false) ∧ w' = w := by
  have := same_ok hu hv ba bb hla
  rw [decide_eq_false h] at this
  exact this

namespace waxSame
set_option maxRecDepth 100000 in
set_option maxHeartbeats 1600000 in
theorem walk0 (ba : Option Addr) (n bcap : Nat) (lb : List Int) (pl : Int) (by_ : Int) (W : World) (hbc : n ≤ bcap) (hcap : bcap ≤ 140737488351232)
    (hlb : lb.length = n) (hb : Sl W (.slice ba n bcap) lb) (bb : Byt lb)
    (hz : -9223372036854775808 ≤ pl ∧ pl ≤ 9223372036854775807) (hy : 0 ≤ by_ ∧ by_ ≤ 255) (G : Glob W) :
    Calls Tryd.prog 6 #[.slice ba n bcap, .int .i64 pl, .int .u8 by_] W fun e W' => TrueEnd W e W' := by
  have HB := hd hb
  have HG := hd G
  have HLB := hd hlb
  have HZ := hd hz
  have HY := hd hy
  clear hlb hb G hz hy
  go_enter Tryd.func6, Tryd.ntmps6
  go_wp2_with fail
  refine (works_ok W HG.out).mono ?_
  rintro e w1 ⟨rfl, hk⟩
  have B1 := hd hk
  clear hk
  go_wp2_with fail
  refine (copy_ok (HB.out.keep B1.out) (by rw [HLB.out]; omega)).mono ?_
  rintro e w2 ⟨x2, c2, rfl, ho, hk⟩
  have B2 := hd (below_below B1.out hk)
  have O2 : Hid (w2.ownsRow W.heap.size 5 1 (.slice x2 lb.length c2) lb.length (bs lb)) := hd (own_lower ho B1.out.size)
  clear ho hk B1
  have A2 := ((Kp.refl (fun _ => False) w2).alloc (.cells (bs [7]).toArray 5)).row O2.out (fun _ _ h => h)
  have Q7 := (Row.new w2 5 (bs [7])).sl (by decide) 1 (by decide) (by decide)
  obtain ⟨v3, w3, hr, ho, hkp, _⟩ := append_at A2 Q7 (by rw [World.size_alloc]; have := B2.out.size; omega) (by rw [HLB.out]; simp; omega) 22
  obtain ⟨x3, c3, rfl⟩ := row_form ho
  have B3 : Hid (Below W.heap.size W w3) := hd (((B2.out.alloc B2.out.size _)).trans (hkp.below W.heap.size (by rw [World.size_alloc]; have := B2.out.size; omega) (fun g hg e => by have := (row_at O2.out e.symm).1; omega)))
  have L3 : Hid ((lb ++ [7]).length = n + 1) := hd (by simp [HLB.out])
  have Y3 : Hid (Byt (lb ++ [7])) := hd (bb.append (by intro x hx; rw [List.mem_singleton.1 hx]; exact ⟨by decide, by decide⟩))
  rw [L3.out] at hr ho
  have O3 := hd ho
  have HR := hd hr
  rw [HLB.out] at HR
  clear ho hr hkp A2 Q7 O2
  rw [HLB.out]
  go_wp2_with (refine wpList_append_run _ rfl _ _ 22 22 rfl _ _ rfl rfl _ w3 HR.out ?_)
  have N1 := hd (longer lb 7)
  have N2 := hd (longer' lb 7)
  generalize lb ++ [7] = lc at *
  have hN : n + 1 ≤ 140737488355328 := by omega
  have hN0 : 0 < n + 1 := by omega
  generalize n + 1 = N at *
  have SC3 : Hid (Sl w3 (.slice x3 N c3) lc) := hd (by have := own_sl (w := w3) (v := .slice x3 N c3) (l := lc) (by rw [L3.out]; exact O3.out) (by rw [L3.out]; exact hN); exact this)
  refine (copy_ok SC3.out (by rw [L3.out]; exact hN)).mono ?_
  rintro e w4 ⟨x4, c4, rfl, ho, hk⟩
  rw [L3.out] at ho ⊢
  have O4 := hd ho
  have B4 := hd (below_below B3.out hk)
  have S4 := hd (SC3.out.keep hk)
  have BK := hd hk
  clear ho hk O3
  have BR := hd (fun w => bring_any pl (N : Int) w HZ.out.1 HZ.out.2 (by omega) (by omega))
  obtain ⟨i, hi⟩ : ∃ i : Nat, pl % (N : Int) = (i : Int) := ⟨(pl % (N : Int)).toNat, by have := Int.emod_nonneg pl (b := (N : Int)) (by omega); omega⟩
  have hib : i < N := by have := Int.emod_lt_of_pos pl (b := (N : Int)) (by omega); omega
  rw [hi] at BR
  clear hi
  go_wp2_with fail
  refine (BR.out _).mono ?_
  rintro e w5 ⟨rfl, rfl⟩
  clear BR
  obtain ⟨g, rfl, hg, hgc, c1, f1, hset⟩ := own_cell O4.out L3.out i hib
  have hib' : (i : Int) < (N : Int) := by omega
  have E1 := wrap_same (lc.getD i 0) by_ (Y3.out.get i) HY.out
  have E2 := hd (set_same lc i (by rw [L3.out]; exact hib) (IntKind.u8.wrap (lc.getD i 0 + by_)))
  have OS := hd (hset (IntKind.u8.wrap (lc.getD i 0 + by_)))
  have YS := hd (byt_set Y3.out i (IntKind.u8.wrap (lc.getD i 0 + by_)) E1.2)
  have E3 := hd E1.1
  have LS : Hid ((lc.set i (IntKind.u8.wrap (lc.getD i 0 + by_))).length = N) := hd (by rw [List.length_set, L3.out])
  clear hset E1
  generalize hyy : IntKind.u8.wrap (lc.getD i 0 + by_) = y at *
  generalize lc.getD i 0 = x at *
  have E4 : Hid (lc = lc.set i y ↔ by_ = 0) := hd (by rw [E2.out]; exact E3.out)
  clear E2 E3
  generalize lc.set i y = ld at *
  have B6 : Below w3.heap.size w3 (w5.setCell ⟨g, i, none⟩ (.int .u8 y)) := below_setCell BK.out _ _ hg
  have B6' : Hid (Below W.heap.size W (w5.setCell ⟨g, i, none⟩ (.int .u8 y))) := hd (below_below B3.out B6)
  have SLc := hd (SC3.out.keep B6)
  have SLd : Hid (Sl (w5.setCell ⟨g, i, none⟩ (.int .u8 y)) (.slice (some ⟨g, 0, none⟩) N c4) ld) := hd (by have := own_sl (v := .slice (some ⟨g, 0, none⟩) N c4) (l := ld) (by rw [LS.out]; exact OS.out) (by rw [LS.out]; exact hN); exact this)
  have SLb := hd (HB.out.keep B6'.out)
  have hla : Hid (lc.length ≤ 140737488355328 ∧ ld.length ≤ 140737488355328 ∧ lb.length ≤ 140737488355328) := hd (by rw [L3.out, LS.out, HLB.out]; omega)
  clear B6
  have CC := hd (same_true SLc.out SLc.out Y3.out Y3.out hla.out.1 rfl)
  have CBC := hd (same_false SLb.out SLc.out bb Y3.out hla.out.2.2 N1.out)
  have CCB := hd (same_false SLc.out SLb.out Y3.out bb hla.out.1 N2.out)
  by_cases hy0 : by_ = 0
  · have CD := hd (same_true SLc.out SLd.out Y3.out YS.out hla.out.1 (E4.out.2 hy0))
    have DC := hd (same_true SLd.out SLc.out YS.out Y3.out hla.out.2.1 (E4.out.2 hy0).symm)
    clear SLc SLd SLb E4
    have hy1 : (by_ == 0) = true := by simpa using hy0
    clear hy0
    go_wp2_with (first
      | (go_at_call 11; (with_reducible refine CC.out.mono ?_); rintro e w' ⟨rfl, rfl⟩)
      | (go_at_call 11; (with_reducible refine CD.out.mono ?_); rintro e w' ⟨rfl, rfl⟩)
      | (go_at_call 11; (with_reducible refine DC.out.mono ?_); rintro e w' ⟨rfl, rfl⟩)
      | (go_at_call 11; (with_reducible refine CBC.out.mono ?_); rintro e w' ⟨rfl, rfl⟩)
      | (go_at_call 11; (with_reducible refine CCB.out.mono ?_); rintro e w' ⟨rfl, rfl⟩))
    go_ret
    exact ⟨rfl, B6'.out⟩
  · have CD := hd (same_false SLc.out SLd.out Y3.out YS.out hla.out.1 (fun h => hy0 (E4.out.1 h)))
    have DC := hd (same_false SLd.out SLc.out YS.out Y3.out hla.out.2.1 (fun h => hy0 (E4.out.1 h.symm)))
    clear SLc SLd SLb E4
    have hy1 : (by_ == 0) = false := by simpa using hy0
    go_wp2_with (first
      | (go_at_call 11; (with_reducible refine CC.out.mono ?_); rintro e w' ⟨rfl, rfl⟩)
      | (go_at_call 11; (with_reducible refine CD.out.mono ?_); rintro e w' ⟨rfl, rfl⟩)
      | (go_at_call 11; (with_reducible refine DC.out.mono ?_); rintro e w' ⟨rfl, rfl⟩)
      | (go_at_call 11; (with_reducible refine CBC.out.mono ?_); rintro e w' ⟨rfl, rfl⟩)
      | (go_at_call 11; (with_reducible refine CCB.out.mono ?_); rintro e w' ⟨rfl, rfl⟩))
    go_ret
    exact ⟨rfl, B6'.out⟩
end waxSame
end Go.Proofs.YteefpbeglmnilaaDoor
