/- WaxSeals: walk. -/
import Derived.Test.YteefpbeglmnilaaDoorRk
import Derived.Test.YteefpbeglmnilaaDoorSw
namespace Go.Proofs.YteefpbeglmnilaaDoor
open Go.RowKit
set_option linter.unusedVariables false

set_option maxRecDepth 100000 in
set_option maxHeartbeats 1000000 in
theorem eq_any {w : World} {u v : Value} {a b : List Int} (hu : Sl w u a) (hv : Sl w v b) (hla : a.length ≤ 140737488355328) :
    Calls Tryd.prog 12 #[u, v] w fun e w' => e = .returned (.bool (decide (a = b))) ∧ Below w.heap.size w w' := by
  obtain ⟨x, cx, rfl⟩ := hu.form
  obtain ⟨y, cy, rfl⟩ := hv.form
  have HU := hd hu
  have HV := hd hv
  clear hu hv
  by_cases hlen : a.length = b.length
  · have HE := hd hlen
    rw [← hlen] at HV ⊢
    have HLn : ∃ n, a.length = n := ⟨_, rfl⟩
    obtain ⟨n, hn⟩ := HLn
    rw [hn] at HU HV hla ⊢
    have HN := hd hn
    clear hn hlen
    go_enter Tryd.func12, Tryd.ntmps12
    go_wp2_with fail
    go_loopw [5] (fun i wr => ∃ k : Nat, k ≤ n ∧ i = .int .i64 (k : Int) ∧ a.take k = b.take k ∧ ∃ d, wr = w.drewN d) (fun i _ => n - (intOf i).toNat)
    case atStart => exact ⟨0, Nat.zero_le _, rfl, by simp, 0, rfl⟩
    case round =>
      obtain ⟨k, hk, rfl, hq, d, hwr⟩ := hrel
      have HQ := hd hq
      have HW := hd hwr
      clear hq
      by_cases hlt : k < n
      · have hlt' : (k : Int) < (n : Int) := by omega
        have ha : k < a.length := by rw [HN.out]; exact hlt
        have hb : k < b.length := by rw [← HE.out, HN.out]; exact hlt
        rcases HU.out with ⟨h0, _⟩ | ⟨g, off, cap, e1, _, hc1, _, _, hcell⟩
        · rw [h0] at ha; simp at ha
        rcases HV.out with ⟨h0, _⟩ | ⟨g', off', cap', e2, _, hc2, _, _, hcell'⟩
        · rw [h0] at hb; simp at hb
        injection e1 with e1 _ e3
        injection e2 with e2 _ e4
        subst e1 e2 e3 e4
        have c1 : wr.cell? ⟨g, off + k, none⟩ = some (.int .u8 (a.getD k 0)) := by rw [hwr]; exact hcell k ha
        have c2 : wr.cell? ⟨g', off' + k, none⟩ = some (.int .u8 (b.getD k 0)) := by rw [hwr]; exact hcell' k hb
        have NX := hd (take_both a b k ha hb)
        rw [HN.out] at hc1
        rw [← HE.out, HN.out] at hc2
        clear hcell hcell' ha hb hwr
        have s1 : IntKind.i64.wrap ((k : Int) + 1) = ((k + 1 : Nat) : Int) := by rw [IntKind.wrap_i64]; omega
        by_cases hab : a.getD k 0 = b.getD k 0
        · have NY := hd (NX.out.2 ⟨HQ.out, hab⟩)
          rw [← hab] at c2
          clear NX hab
          generalize a.getD k 0 = α at *
          go_wp2_with fail
          go_quiet (fail)
          go_wp2_with fail
          go_roundw
          case rel => exact ⟨k + 1, by omega, by go_num, NY.out, d + nq, by rw [HW.out, World.drewN_drewN]⟩
          case measure => simp [intOf]; omega
        · have E : Hid (decide (a = b) = false) := hd (decide_eq_false (fun h => hab (by rw [h])))
          generalize a.getD k 0 = α at *
          generalize b.getD k 0 = β at *
          have hne : (α == β) = false := by simpa using hab
          clear NX
          go_wp2_with fail
          go_quiet (fail)
          go_wp2_with fail
          go_ret
          exact ⟨by rw [E.out]; rfl, by rw [HW.out]; exact below_drewN (below_drewN (Below.refl _ _) _) _⟩
      · have hkn : k = n := by omega
        subst hkn
        have hnl : ¬ (k : Int) < (k : Int) := by omega
        have hq := HQ.out
        rw [List.take_of_length_le (by rw [HN.out]; exact Nat.le_refl _), List.take_of_length_le (by rw [← HE.out, HN.out]; exact Nat.le_refl _)] at hq
        have E : Hid (decide (a = b) = true) := hd (decide_eq_true hq)
        clear hq hwr
        go_wp2_with fail
        go_ret
        exact ⟨by rw [E.out]; rfl, by rw [HW.out]; exact below_drewN (Below.refl _ _) _⟩
  · have E : Hid (decide (a = b) = false) := hd (decide_eq_false (fun h => hlen (by rw [h])))
    generalize decide (a = b) = t at *
    have hne : ¬ ((a.length : Nat) : Int) = ((b.length : Nat) : Int) := by omega
    generalize a.length = n at *
    generalize b.length = m at *
    have hne' : (((n : Nat) : Int) == (m : Int)) = false := by simpa using hne
    clear hlen
    go_enter Tryd.func12, Tryd.ntmps12
    go_wp2_with fail
    go_ret
    exact ⟨by rw [E.out]; rfl, Below.refl _ _⟩

theorem eq_true_ {w : World} {u v : Value} {a b : List Int} (hu : Sl w u a) (hv : Sl w v b) (hla : a.length ≤ 140737488355328) (h : a = b) : Calls Tryd.prog 12 #[u, v] w fun e w' => e = .returned (.bool true) ∧ Below w.heap.size w w' := by
  have := eq_any hu hv hla
  rw [decide_eq_true h] at this
  exact this
theorem eq_false_ {w : World} {u v : Value} {a b : List Int} (hu : Sl w u a) (hv : Sl w v b) (hla : a.length ≤ 140737488355328) (h : ¬ a = b) : Calls Tryd.prog 12 #[u, v] w fun e w' => e = .returned (.bool false) ∧ Below w.heap.size w w' := by
  have := eq_any hu hv hla
  rw [decide_eq_false h] at this
  exact this
/-- A copy, as bytes that lie there. -/
theorem copy_sl {w : World} {v : Value} {m : List Int} (hv : Sl w v m) (hm : m.length ≤ 1000) : Calls Tryd.prog 8 #[v] w fun e w' => ∃ x c, e = .returned (.slice x m.length c) ∧ Sl w' (.slice x m.length c) m ∧ w'.ownsRow w.heap.size 5 1 (.slice x m.length c) m.length (bs m) ∧ Below w.heap.size w w' := by
  refine (copy_ok hv (by omega)).mono ?_
  rintro e w' ⟨x, c, rfl, ho, hk⟩
  exact ⟨x, c, rfl, own_sl ho (by omega), ho, hk⟩
/-- A copy that grows by bytes. -/
theorem app_sl {w w4 : World} {v x : Value} {la l : List Int} (h : w4.ownsRow w.heap.size 5 1 v la.length (bs la)) (k : Below w.heap.size w w4) (hx : Sl w4 x l) (hb : la.length + l.length ≤ 1000) :
    ∃ y c w5, (Builtin.append_ #[22, 22] 22 #[v, x]).run Tryd.prog w4 = .ok (.slice y (la.length + l.length) c) w5 ∧ Sl w5 (.slice y (la.length + l.length) c) (la ++ l) ∧ Below w.heap.size w w5 := by
  obtain ⟨v', w', hr, ho, hk, _⟩ := append_at h hx k.size (by omega) 22
  obtain ⟨y, c, rfl⟩ := row_form ho
  have hs := own_sl ho (by rw [List.length_append]; omega)
  rw [List.length_append] at hr hs
  exact ⟨y, c, w', hr, hs, k.trans (hk.below _ k.size (fun g hg e => by have := (row_at h e.symm).1; omega))⟩

namespace waxSeals
set_option maxRecDepth 100000 in
set_option maxHeartbeats 1600000 in
theorem walk0 (ka : Option Addr) (klen kcap m : Nat) (lk : List Int) (aa : Option Addr) (alen acap p : Nat) (la : List Int) (ba : Option Addr) (blen bcap n : Nat) (lb : List Int) (W : World)
    (hm : (klen ≤ 500 ∧ m = klen) ∨ (500 < klen ∧ m = 500)) (hp : (alen ≤ 500 ∧ p = alen) ∨ (500 < alen ∧ p = 500)) (hn : (blen ≤ 500 ∧ n = blen) ∨ (500 < blen ∧ n = 500)) (hkc : klen ≤ kcap) (hac : alen ≤ acap) (hbc : blen ≤ bcap)
    (hlk : lk.length = m) (hla : la.length = p) (hlb : lb.length = n) (hk : Sl W (.slice ka m kcap) lk) (ha : Sl W (.slice aa p acap) la) (hb : Sl W (.slice ba n bcap) lb) (bk : Byt lk) (bA : Byt la) (bb : Byt lb) (G : Glob W) :
    Calls Tryd.prog 3 #[.slice ka klen kcap, .slice aa alen acap, .slice ba blen bcap] W fun e W' => TrueEnd W e W' := by
  have hmin1 := min500 klen m hm
  have hmin2 := min500 alen p hp
  have hmin3 := min500 blen n hn
  have g1 : (m : Int) ≤ (kcap : Int) := by omega
  have g2 : m ≤ kcap := by omega
  have g3 : (p : Int) ≤ (acap : Int) := by omega
  have g4 : p ≤ acap := by omega
  have g5 : (n : Int) ≤ (bcap : Int) := by omega
  have g6 : n ≤ bcap := by omega
  have HM5 : Hid (m ≤ 500 ∧ p ≤ 500 ∧ n ≤ 500) := hd (by omega)
  have HK := hd hk
  have HA := hd ha
  have HB := hd hb
  have HG := hd G
  have HLK := hd hlk
  have HLA := hd hla
  have HLB := hd hlb
  clear hm hp hn hkc hac hbc hlk hla hlb hk ha hb G
  go_enter Tryd.func3, Tryd.ntmps3
  go_wp2_with fail
  go_region
  have B1 : Hid (Below W.heap.size W W.drew) := hd (Below.refl _ _).drew
  generalize W.drew = w1 at *
  go_wp2_with fail
  refine (copy_sl (HK.out.keep B1.out) (by rw [HLK.out]; have := HM5.out; omega)).mono ?_
  rintro e w2 ⟨xk, ck, rfl, sk, _, hk⟩
  rw [HLK.out] at sk ⊢
  have SK2 := hd sk
  have B2 := hd (below_below B1.out hk)
  clear sk hk B1
  go_wp2_with fail
  refine (copy_sl (HA.out.keep B2.out) (by rw [HLA.out]; have := HM5.out; omega)).mono ?_
  rintro e w3 ⟨xx, cx, rfl, sx, _, hk⟩
  rw [HLA.out] at sx ⊢
  have SX3 := hd sx
  have SK3 := hd (SK2.out.keep hk)
  have B3 := hd (below_below B2.out hk)
  clear sx hk B2 SK2
  go_wp2_with fail
  refine (copy_sl (HB.out.keep B3.out) (by rw [HLB.out]; have := HM5.out; omega)).mono ?_
  rintro e w4 ⟨xy, cy, rfl, sy, _, hk⟩
  rw [HLB.out] at sy ⊢
  have SY4 := hd sy
  have SK4 := hd (SK3.out.keep hk)
  have SX4 := hd (SX3.out.keep hk)
  have B4 := hd (below_below B3.out hk)
  clear sy hk B3 SK3 SX3
  go_wp2_with fail
  refine (copy_sl (HA.out.keep B4.out) (by rw [HLA.out]; have := HM5.out; omega)).mono ?_
  rintro e w5 ⟨xz, cz, rfl, _, oz, hk⟩
  obtain ⟨y6, c6, w6, hr, hs, hk6⟩ := app_sl oz hk ((HB.out.keep B4.out).keep hk) (by rw [HLA.out, HLB.out]; have := HM5.out; omega)
  rw [HLA.out, HLB.out] at hr hs
  rw [HLA.out]
  have HR := hd hr
  have SZ6 := hd hs
  have SK6 := hd (SK4.out.keep hk6)
  have SX6 := hd (SX4.out.keep hk6)
  have SY6 := hd (SY4.out.keep hk6)
  have B6 := hd (below_below B4.out hk6)
  clear hr hs hk hk6 oz B4 SK4 SX4 SY4
  go_wp2_with (at_builtin; refine wpList_append_run _ rfl _ _ _ _ rfl _ _ rfl rfl (.slice y6 (p + n) c6) w6 HR.out ?_; clear HR)
  have T6 := Th.two SX6.out SY6.out
  have C6 : Below w6.heap.size w6 (w6.alloc (.cells #[.slice xx p cx, .slice xy n cy] 22)) := (Below.refl _ _).alloc (Nat.le_refl _) _
  refine (wof_ok (SK6.out.keep C6) T6 (by rw [HLK.out]; have := HM5.out; omega) bk (by simp [HLA.out, HLB.out]; have := HM5.out; omega) (by intro x hx; simp at hx; rcases hx with rfl | rfl; exact bA; exact bb)).mono ?_
  rintro e w7 ⟨rfl, hk⟩
  rw [show List.flatten [la, lb] = la ++ lb by simp]
  have D7 := below_below C6 hk
  have B7 := hd (below_below B6.out D7)
  have SK7 := hd (SK6.out.keep D7)
  have SX7 := hd (SX6.out.keep D7)
  have SY7 := hd (SY6.out.keep D7)
  have SZ7 := hd (SZ6.out.keep D7)
  clear hk T6 C6 D7 B6 SK6 SX6 SY6 SZ6
  go_wp2_with fail
  refine (rmac_ok (HK.out.keep B7.out) SZ7.out (by rw [HLK.out]; have := HM5.out; omega) (by rw [List.length_append, HLA.out, HLB.out]; have := HM5.out; omega) bk (bA.append bb)).mono ?_
  rintro e w8 ⟨rfl, hk⟩
  have B8 := hd (below_below B7.out hk)
  have SK8 := hd (SK7.out.keep hk)
  have SX8 := hd (SX7.out.keep hk)
  have SY8 := hd (SY7.out.keep hk)
  clear hk B7 SK7 SX7 SY7 SZ7
  have eq := eq28 (Sha.mac lk (la ++ lb)) (mac_len _ _)
  generalize Sha.mac lk (la ++ lb) = d at *
  have LB : Hid (lk.length ≤ 140737488355328 ∧ la.length ≤ 140737488355328 ∧ lb.length ≤ 140737488355328) := hd (by rw [HLK.out, HLA.out, HLB.out]; have := HM5.out; omega)
  have REST : Hid (∀ w9, Below w8.heap.size w8 w9 → Calls Tryd.prog 12 #[.slice xk m ck, .slice ka m kcap] w9 fun e w' => e = .returned (.bool true) ∧ Below w9.heap.size w9 w') := hd (fun w9 k => eq_ok (SK8.out.keep k) (HK.out.keep (below_below B8.out k)) LB.out.1)
  have REST2 : Hid (∀ w9, Below w8.heap.size w8 w9 → Calls Tryd.prog 12 #[.slice xx p cx, .slice aa p acap] w9 fun e w' => e = .returned (.bool true) ∧ Below w9.heap.size w9 w') := hd (fun w9 k => eq_ok (SX8.out.keep k) (HA.out.keep (below_below B8.out k)) LB.out.2.1)
  have REST3 : Hid (∀ w9, Below w8.heap.size w8 w9 → Calls Tryd.prog 12 #[.slice xy n cy, .slice ba n bcap] w9 fun e w' => e = .returned (.bool true) ∧ Below w9.heap.size w9 w') := hd (fun w9 k => eq_ok (SY8.out.keep k) (HB.out.keep (below_below B8.out k)) LB.out.2.2)
  have REST4 : Hid (∀ w9, Below w8.heap.size w8 w9 → Calls Tryd.prog 13 #[] w9 fun e w' => TrueEnd w9 e w') := hd (fun w9 k => works_ok w9 (HG.out.keep (below_below B8.out k)))
  by_cases hab : la = lb
  · have SM := hd (same_true SX8.out SY8.out bA bb LB.out.2.1 hab)
    have EM := hd (eq_true_ (HA.out.keep B8.out) (HB.out.keep B8.out) LB.out.2.1 hab)
    clear SK8 SX8 SY8 hab
    go_wp2_with fail
    refine SM.out.mono ?_
    rintro e w' ⟨rfl, rfl⟩
    go_wp2_with fail
    refine EM.out.mono ?_
    rintro e w9 ⟨rfl, hk9⟩
    have K9 := hd hk9
    clear hk9 EM SM
    go_wp2_with fail
    refine (REST.out _ K9.out).mono ?_
    rintro e w10 ⟨rfl, hk⟩
    have K10 := hd (below_below K9.out hk)
    clear hk
    go_wp2_with fail
    refine (REST2.out _ K10.out).mono ?_
    rintro e w11 ⟨rfl, hk⟩
    have K11 := hd (below_below K10.out hk)
    clear hk
    go_wp2_with fail
    refine (REST3.out _ K11.out).mono ?_
    rintro e w12 ⟨rfl, hk⟩
    have K12 := hd (below_below K11.out hk)
    clear hk
    go_wp2_with fail
    refine (REST4.out _ K12.out).mono ?_
    rintro e w13 ⟨rfl, hk⟩
    have K13 := hd (below_below K12.out hk)
    clear hk
    go_wp2_with fail
    go_ret
    exact ⟨rfl, below_below B8.out K13.out⟩
  · have SM := hd (same_false SX8.out SY8.out bA bb LB.out.2.1 hab)
    have EM := hd (eq_false_ (HA.out.keep B8.out) (HB.out.keep B8.out) LB.out.2.1 hab)
    clear SK8 SX8 SY8 hab
    go_wp2_with fail
    refine SM.out.mono ?_
    rintro e w' ⟨rfl, rfl⟩
    go_wp2_with fail
    refine EM.out.mono ?_
    rintro e w9 ⟨rfl, hk9⟩
    have K9 := hd hk9
    clear hk9 EM SM
    go_wp2_with fail
    refine (REST.out _ K9.out).mono ?_
    rintro e w10 ⟨rfl, hk⟩
    have K10 := hd (below_below K9.out hk)
    clear hk
    go_wp2_with fail
    refine (REST2.out _ K10.out).mono ?_
    rintro e w11 ⟨rfl, hk⟩
    have K11 := hd (below_below K10.out hk)
    clear hk
    go_wp2_with fail
    refine (REST3.out _ K11.out).mono ?_
    rintro e w12 ⟨rfl, hk⟩
    have K12 := hd (below_below K11.out hk)
    clear hk
    go_wp2_with fail
    refine (REST4.out _ K12.out).mono ?_
    rintro e w13 ⟨rfl, hk⟩
    have K13 := hd (below_below K12.out hk)
    clear hk
    go_wp2_with fail
    go_ret
    exact ⟨rfl, below_below B8.out K13.out⟩
end waxSeals
end Go.Proofs.YteefpbeglmnilaaDoor
