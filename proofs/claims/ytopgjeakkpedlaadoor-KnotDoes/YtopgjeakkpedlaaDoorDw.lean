/- KnotDoes: walk. -/
import Derived.Test.YtopgjeakkpedlaaDoorCb
namespace Go.Proofs.YtopgjeakkpedlaaDoor.knotDoes
open Go.RowKit
set_option linter.unusedVariables false

theorem min300 (len q : Nat) (hm : (len ≤ 300 ∧ q = len) ∨ (300 < len ∧ q = 300)) (w : World) : (Builtin.min_ #[3, 3] 3 #[.int .i64 (len : Int), .int .i64 300]).run Tryd.prog w = .ok (.int .i64 (q : Int)) w := by
  simp only [Builtin.min_, Builtin.min2, List.foldlM_cons, List.foldlM_nil, pure_bind, Sem.run_pure, Result.ok.injEq, Value.int.injEq, true_and, and_true]
  split <;> omega

theorem isrow_sl {W : World} {a : Option Addr} {len cap : Nat} {zs : List Int} (h : IsRow .u8 W a len cap zs) (q : Nat) (hq : q ≤ len) : Sl W (.slice a q cap) (zs.take q) ∧ (zs.take q).length = q ∧ Byt (zs.take q) := by
  have hc := h.cap
  have hlen : (zs.take q).length = q := by rw [List.length_take]; omega
  refine ⟨?_, hlen, h.byt.take q⟩
  by_cases h0 : q = 0
  · subst h0; exact sl_empty _ _ _
  rcases h.at_ with h1 | ⟨g, off, rfl, hg, hcell⟩
  · omega
  · refine Or.inr ⟨g, off, cap, by rw [hlen], by omega, by omega, by omega, hg, fun i hi => ?_⟩
    rw [hlen] at hi
    rw [hcell i (by omega), List.getD_eq_getElem?_getD, List.getD_eq_getElem?_getD, List.getElem?_take_of_lt hi]

/-- What a round finds of the list: the row's place, its first bytes. -/
theorem round_row {W : World} {a : Option Addr} {len cap : Nat} {A : Nat → Option Addr} {L C : Nat → Nat} {Z : Nat → List Int} (h : IsRows W a len cap A L C Z) (k : Nat) (hk : k < len) :
    ∃ b off q m, a = some ⟨b, off, none⟩ ∧ b < W.heap.size ∧ W.cell? ⟨b, off + k, none⟩ = some (.slice (A k) (L k) (C k)) ∧ ((L k ≤ 300 ∧ q = L k) ∨ (300 < L k ∧ q = 300)) ∧ q ≤ C k ∧ q ≤ 300 ∧ m.length = q ∧ Byt m ∧ Sl W (.slice (A k) q (C k)) m := by
  obtain ⟨b, off, e1, e2, e3, e4⟩ := h.row k hk
  have hc := e4.cap
  by_cases hl : L k ≤ 300
  · obtain ⟨s1, s2, s3⟩ := isrow_sl e4 (L k) (Nat.le_refl _)
    exact ⟨b, off, L k, _, e1, e2, e3, Or.inl ⟨hl, rfl⟩, hc.1, hl, s2, s3, s1⟩
  · obtain ⟨s1, s2, s3⟩ := isrow_sl e4 300 (by omega)
    exact ⟨b, off, 300, _, e1, e2, e3, Or.inr ⟨by omega, rfl⟩, by omega, by omega, s2, s3, s1⟩

def CpE (w : World) (m : List Int) (n : Nat) (e : Ending) (w' : World) : Prop := ∃ x c, e = .returned (.slice x n c) ∧ w'.ownsRow w.heap.size 5 1 (.slice x n c) m.length (bs m) ∧ Below w.heap.size w w'
theorem copy_n {w : World} {v : Value} {m : List Int} (n : Nat) (hn : m.length = n) (hv : Sl w v m) (hm : n ≤ 140737488355328) : Calls Tryd.prog 8 #[v] w fun e w' => CpE w m n e w' := by
  subst hn
  exact copy_ok hv hm

set_option maxRecDepth 100000 in
set_option maxHeartbeats 1600000 in
theorem walk (a : Option Addr) (llen lcap : Nat) (A : Nat → Option Addr) (L C : Nat → Nat) (Z : Nat → List Int) (W : World)
    (h1 : IsRows W a llen lcap A L C Z) (G : Glob W) :
    Calls Tryd.prog 3 #[.slice a llen lcap] W fun e W' => e = .returned (.bool true) ∧ Below W.heap.size W W' := by
  have I1 := hd h1
  have HG := hd G
  clear h1 G
  go_enter Tryd.func3, Tryd.ntmps3
  go_wp2_with fail
  refine (new_ok W).mono ?_
  rintro e w1 ⟨kx, rfl, hkx, hrx, hk⟩
  have A0 : Hid (DS W kx [] [] [] (.slice none 0 0) (.slice none 0 0) w1) := ⟨hk, hkx, hrx, World.ownsRow_nil _ _ _ _, World.ownsRow_nil _ _ _ _, (fun g h => by cases h), Byt.nil⟩
  clear hk hrx hkx
  go_wp2_with fail
  go_loopw [4, 5] (fun va i wr => ∃ (k : Nat) (la : List Int), k ≤ 10 ∧ i = .int .i64 (k : Int) ∧ la.length ≤ 300 * k ∧ DS W kx la la [] va (.slice none 0 0) wr) (fun _ i _ => 10 - (intOf i).toNat)
  case atStart => exact ⟨0, [], Nat.zero_le _, rfl, Nat.le_refl _, A0.out⟩
  case round =>
    clear A0
    obtain ⟨k, la, hk, rfl, hla, has⟩ := hrel
    have HA := hd has
    clear has
    by_cases hgo : k < llen ∧ k < 10
    · have h1' : (k : Int) < (llen : Int) := by omega
      have h2' : (k : Int) < 10 := by omega
      have HK := hd (And.intro hk (And.intro hla hgo))
      obtain ⟨b1, o1, q1, m1, rfl, hb1, hc1, hq1, hcap1, h300, hm1, hy1, hs1⟩ := round_row I1.out k hgo.1
      have S1 := hd hs1
      have M1 := hd (And.intro hm1 h300)
      have Y1 := hd hy1
      have c1 : wr.cell? ⟨b1, o1 + k, none⟩ = some (.slice (A k) (L k) (C k)) := by
        rw [(kpB HA.out.bel (fun _ => False)).cell (p := ⟨b1, o1 + k, none⟩) hb1 (fun h => h)]
        exact hc1
      have min1 := min300 _ _ hq1
      have g1 : (q1 : Int) ≤ (C k : Int) := by omega
      have HB1 := hd hb1
      clear hs1 hy1 hc1 hb1 hq1 hm1 h300 hk hla hgo
      generalize A k = Ak at *
      generalize L k = Lk at *
      generalize C k = Ck at *
      have HAD := hd (HA.out.step (Below.refl _ wr).drew)
      have C1 := hd c1
      have LTB : Hid (b1 < wr.heap.size) := hd (Nat.lt_of_lt_of_le HB1.out HA.out.bel.size)
      go_wp2_with fail
      go_region_held3 (fun W' => W'.cell? ⟨b1, o1 + k, none⟩ = some (.slice Ak Lk Ck)) (go_keep) (first
        | (go_at_call 8; refine (copy_n q1 M1.out.1 (S1.out.keep HAD.out.bel) (by have := M1.out; omega)).mono ?_; rintro e w2 ⟨x2, c2, rfl, ho, hb⟩; have HO := hd ho; have HB := hd hb; have cc : w2.cell? ⟨b1, o1 + k, none⟩ = some (.slice Ak Lk Ck) := ((kpB HB.out (fun _ => False)).cell (p := ⟨b1, o1 + k, none⟩) LTB.out (fun h => h)).trans C1.out; clear ho hb))
      have D2 : Hid (DS W kx la la m1 _ (.slice x2 q1 c2) w2) := hd (HAD.out.copy HO.out HB.out)
      clear HO HB cc HAD C1 c1 min1
      go_wp2_with fail
      refine (D2.out.add Y1.out (by have := HK.out; omega) (by have := M1.out; omega)).mono ?_
      rintro e w3 ⟨rfl, d3⟩
      obtain ⟨v4, w4, r4, d4⟩ := d3.app (by have := M1.out; omega) (by have := HK.out; have := M1.out; omega)
      have LN : Hid ((la ++ m1).length ≤ 300 * (k + 1)) := hd (by have := HK.out; have := M1.out; rw [List.length_append]; omega)
      have R4 := hd r4
      have D4 := hd d4
      clear r4 d4 d3 D2
      generalize la ++ m1 = l' at *
      obtain ⟨xa, ca, rfl⟩ := row_form D4.out.oa
      go_wp2_with (at_builtin; refine wpList_append_run _ rfl _ _ _ _ rfl _ _ rfl rfl (.slice xa l'.length ca) w4 R4.out ?_; clear R4)
      generalize hln : l'.length = ln at *
      have HLN := hd hln
      clear hln
      go_loopw [7] (fun i wr => ∃ (n : Nat) (z : List Int), n ≤ q1 ∧ i = .int .i64 (n : Int) ∧ z.length = q1 ∧ DS W kx l' l' z (.slice xa ln ca) (.slice x2 q1 c2) wr) (fun i _ => q1 - (intOf i).toNat)
      case atStart => exact ⟨0, m1, Nat.zero_le _, rfl, M1.out.1, D4.out⟩
      case round =>
        clear D4
        obtain ⟨n, z, hn, rfl, hz, hs⟩ := hrel
        by_cases hlt : n < q1
        · have hlt' : (n : Int) < (q1 : Int) := by omega
          obtain ⟨g, rfl, cc, fc, nx⟩ := hs.cell hz n hlt
          have NX := hd nx
          have ZL : Hid (∀ y, (z.set n y).length = q1) := hd (fun y => by rw [List.length_set]; exact hz)
          have QB : Hid (q1 ≤ 300) := hd M1.out.2
          have s1 : IntKind.i64.wrap ((n : Int) + 1) = ((n + 1 : Nat) : Int) := by have := QB.out; rw [IntKind.wrap_i64]; omega
          obtain ⟨y, hy⟩ : ∃ y, IntKind.u8.wrap (z.getD n 0 + 1) = y := ⟨_, rfl⟩
          clear hs nx hz
          generalize z.getD n 0 = x at *
          go_wp2_with fail
          go_roundw
          case rel => exact ⟨n + 1, z.set n y, by omega, by go_num, ZL.out y, NX.out y⟩
          case measure => simp [intOf]; omega
        · have hnq : ¬ ((n : Int) < (q1 : Int)) := by omega
          have D5 := hd hs
          clear hs hz
          have LB : Hid (l'.length ≤ 70368744177664) := hd (by have := LN.out; have := HLN.out; have := HK.out; omega)
          have e28 := fun w => eq28 (Sha.dig l') (dig_len _) w
          go_wp2_with fail
          refine (tie_ok D5.out.rx LB.out D5.out.bx).mono ?_
          rintro e w5 ⟨rfl, hk5⟩
          have D6 := hd (D5.out.step hk5)
          clear hk5 D5
          go_wp2_with fail
          refine (rof_ok (v := .slice xa ln ca) (own_sl D6.out.oa (by have := LB.out; omega)) LB.out D6.out.bx).mono ?_
          rintro e w6 ⟨rfl, hk6⟩
          have D7 := hd (D6.out.step hk6)
          clear hk6 D6
          generalize (bs (Sha.dig l')).toArray = dg at *
          go_wp2_with fail
          have LEN := hd (len_ok kx w6 _ _ _ _ rfl (Sha.pad_len _ (by rw [Sha.rest_len]; omega)) D7.out.rx)
          rw [HLN.out] at LEN
          refine LEN.out.mono ?_
          rintro e w7 ⟨rfl, rfl⟩
          clear LEN
          have s2 : IntKind.i64.wrap ((k : Int) + 1) = ((k + 1 : Nat) : Int) := by have := HK.out; rw [IntKind.wrap_i64]; omega
          go_wp2_with fail
          go_roundw
          case rel => exact ⟨k + 1, l', by have := HK.out; omega, by go_num, by rw [HLN.out]; exact LN.out, D7.out.drop⟩
          case measure => have := HK.out; simp [intOf]; omega
    · have LB : Hid (la.length ≤ 70368744177664) := hd (by omega)
      have e28 := fun w => eq28 (Sha.dig la) (dig_len _) w
      obtain ⟨xa, ca, rfl⟩ := row_form HA.out.oa
      generalize hln : la.length = ln at *
      have HLN := hd hln
      clear hln
      have HAS : Hid (∀ w', DS W kx la la [] (.slice xa ln ca) (.slice none 0 0) w' → Sl w' (.slice xa ln ca) la) := hd (fun w' h => own_sl (by have := h.oa; rw [HLN.out] at this ⊢; exact this) (by have := LB.out; have := HLN.out; omega))
      by_cases h1 : k < llen
      · have h1' : (k : Int) < (llen : Int) := by omega
        have h2' : ¬ ((k : Int) < 10) := by omega
        clear hgo hk hla
        go_wp2_with fail
        refine (copy_n ln HLN.out (HAS.out _ HA.out) (by have := LB.out; omega)).mono ?_
        rintro e w5 ⟨xi, ci, rfl, ho, hb⟩
        have D5 : Hid (DS W kx la la la (.slice xa ln ca) (.slice xi ln ci) w5) := hd (HA.out.copy ho hb)
        clear ho hb HA
        have SI : Hid (∀ w', DS W kx la la la (.slice xa ln ca) (.slice xi ln ci) w' → Sl w' (.slice xi ln ci) la ∧ Sl w' (.slice xa ln ca) la) := hd (fun w' h => ⟨own_sl h.ob (by have := LB.out; have := HLN.out; omega), HAS.out _ h.drop⟩)
        have LB2 : Hid (la.length ≤ 70368744177664) := hd (by rw [HLN.out]; exact LB.out)
        go_wp2_with fail
        refine (of_ok (v := .slice xi ln ci) (SI.out _ D5.out).1 LB2.out D5.out.bx).mono ?_
        rintro e w6 ⟨rfl, hk6⟩
        have D6 := hd (D5.out.step hk6)
        clear hk6 D5
        go_wp2_with fail
        refine (rof_ok (v := .slice xa ln ca) (SI.out _ D6.out).2 LB2.out D6.out.bx).mono ?_
        rintro e w7 ⟨rfl, hk7⟩
        have D7 := hd (D6.out.step hk7)
        clear hk7 D6
        generalize (bs (Sha.dig la)).toArray = dg at *
        go_wp2_with fail
        refine (eq_ok (u := .slice xi ln ci) (v := .slice xa ln ca) (SI.out _ D7.out).1 (SI.out _ D7.out).2 (by have := LB2.out; omega)).mono ?_
        rintro e w8 ⟨rfl, hk8⟩
        have D8 := hd (D7.out.step hk8)
        clear hk8 D7
        go_wp2_with fail
        refine (works_ok w8 (HG.out.keep D8.out.bel)).mono ?_
        rintro e w9 ⟨rfl, hk9⟩
        have B9 := hd (below_below D8.out.bel hk9)
        clear hk9 D8
        go_wp2_with fail
        go_ret
        exact ⟨rfl, B9.out⟩
      · have h1' : ¬ ((k : Int) < (llen : Int)) := by omega
        clear hgo hk hla
        go_wp2_with fail
        refine (copy_n ln HLN.out (HAS.out _ HA.out) (by have := LB.out; omega)).mono ?_
        rintro e w5 ⟨xi, ci, rfl, ho, hb⟩
        have D5 : Hid (DS W kx la la la (.slice xa ln ca) (.slice xi ln ci) w5) := hd (HA.out.copy ho hb)
        clear ho hb HA
        have SI : Hid (∀ w', DS W kx la la la (.slice xa ln ca) (.slice xi ln ci) w' → Sl w' (.slice xi ln ci) la ∧ Sl w' (.slice xa ln ca) la) := hd (fun w' h => ⟨own_sl h.ob (by have := LB.out; have := HLN.out; omega), HAS.out _ h.drop⟩)
        have LB2 : Hid (la.length ≤ 70368744177664) := hd (by rw [HLN.out]; exact LB.out)
        go_wp2_with fail
        refine (of_ok (v := .slice xi ln ci) (SI.out _ D5.out).1 LB2.out D5.out.bx).mono ?_
        rintro e w6 ⟨rfl, hk6⟩
        have D6 := hd (D5.out.step hk6)
        clear hk6 D5
        go_wp2_with fail
        refine (rof_ok (v := .slice xa ln ca) (SI.out _ D6.out).2 LB2.out D6.out.bx).mono ?_
        rintro e w7 ⟨rfl, hk7⟩
        have D7 := hd (D6.out.step hk7)
        clear hk7 D6
        generalize (bs (Sha.dig la)).toArray = dg at *
        go_wp2_with fail
        refine (eq_ok (u := .slice xi ln ci) (v := .slice xa ln ca) (SI.out _ D7.out).1 (SI.out _ D7.out).2 (by have := LB2.out; omega)).mono ?_
        rintro e w8 ⟨rfl, hk8⟩
        have D8 := hd (D7.out.step hk8)
        clear hk8 D7
        go_wp2_with fail
        refine (works_ok w8 (HG.out.keep D8.out.bel)).mono ?_
        rintro e w9 ⟨rfl, hk9⟩
        have B9 := hd (below_below D8.out.bel hk9)
        clear hk9 D8
        go_wp2_with fail
        go_ret
        exact ⟨rfl, B9.out⟩
end Go.Proofs.YtopgjeakkpedlaaDoor.knotDoes
