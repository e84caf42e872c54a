/- KnotPieces: walk. -/
import Derived.Test.YtopgjeakkpedlaaDoorLb
namespace Go.Proofs.YtopgjeakkpedlaaDoor.knotPieces
open Go.RowKit
set_option linter.unusedVariables false

/-- Bytes that came in, m of them; the world W is the law's first. -/
def InRow (W : World) (a : Option Addr) (m : Nat) (l : List Int) : Prop := m = 0 ∨ ∃ g off, a = some ⟨g, off, none⟩ ∧ g < W.heap.size ∧ ∀ i, i < m → W.cell? ⟨g, off + i, none⟩ = some (.int .u8 (l.getD i 0))

theorem min2000 (len m : Nat) (hm : (len ≤ 2000 ∧ m = len) ∨ (2000 < len ∧ m = 2000)) (w : World) : (Builtin.min_ #[3, 3] 3 #[.int .i64 (len : Int), .int .i64 2000]).run Tryd.prog w = .ok (.int .i64 (m : Int)) w := by
  simp only [Builtin.min_, Builtin.min2, List.foldlM_cons, List.foldlM_nil, pure_bind, Sem.run_pure, Result.ok.injEq, Value.int.injEq, true_and, and_true]
  split <;> omega

theorem piece1 {W : World} {a : Option Addr} {m : Nat} {l : List Int} (h : InRow W a m l) (hl : l.length = m) (t n cap : Nat) (h1 : t + n ≤ m) (h2 : n ≤ cap - t) (h3 : cap ≤ 140737488355328) :
    Sl W (.slice (Option.map (fun x => x.add t) a) n (cap - t)) ((l.drop t).take n) := by
  rcases h with h0 | ⟨g, off, rfl, hg, hc⟩
  · obtain rfl : n = 0 := by omega
    exact sl_empty _ _ _
  · rw [Option.map_some, Addr.add_lit]
    exact sl_piece hg (by rw [hl]; exact hc) t n (cap - t) (by omega) h2 (by omega)
theorem piece2 {W : World} {a : Option Addr} {m : Nat} {l : List Int} (h : InRow W a m l) (hl : l.length = m) (t n cap : Nat) (h1 : t + n ≤ m) (h2 : m ≤ cap) (h3 : cap = t) :
    Sl W (.slice a n 0) ((l.drop t).take n) := by
  obtain rfl : n = 0 := by omega
  exact sl_empty _ _ _
theorem piece3 {W : World} {a : Option Addr} {m : Nat} {l : List Int} (h : InRow W a m l) (hl : l.length = m) (t : Nat) (h1 : m ≤ t) {c : Nat} :
    Sl W (.slice a 0 c) ((l.drop t).take (m - t)) := by
  rw [Nat.sub_eq_zero_of_le h1]
  exact sl_empty _ _ _
theorem front {W : World} {a : Option Addr} {m : Nat} {l : List Int} (h : InRow W a m l) (hl : l.length = m) (n cap : Nat) (h1 : n ≤ m) (h2 : m ≤ cap) (h3 : cap ≤ 140737488355328) : Sl W (.slice a n cap) (l.take n) := by
  rcases h with h0 | ⟨g, off, rfl, hg, hc⟩
  · obtain rfl : n = 0 := by omega
    exact sl_empty _ _ _
  · have h := sl_piece hg (by rw [hl]; exact hc) 0 n cap (by omega) (by omega) h3
    rw [List.drop_zero] at h
    exact h

set_option maxRecDepth 100000 in
set_option maxHeartbeats 1600000 in
theorem walk0 (a : Option Addr) (len cap m : Nat) (l : List Int) (ca : Option Addr) (clen ccap : Nat) (cz : List Int) (ties : Int) (W : World)
    (hc : len ≤ cap) (hcap : cap ≤ 140737488351232) (hm : (len ≤ 2000 ∧ m = len) ∨ (2000 < len ∧ m = 2000)) (hl : l.length = m) (hb : Byt l) (ha : InRow W a m l)
    (hca : clen = 0 ∨ ∃ g off, ca = some ⟨g, off, none⟩ ∧ g < W.heap.size ∧ ∀ i, i < clen → W.cell? ⟨g, off + i, none⟩ = some (.int .i64 (cz.getD i 0)))
    (hcz : ∀ i, -9223372036854775808 ≤ cz.getD i 0 ∧ cz.getD i 0 ≤ 9223372036854775807) (G : Glob W) :
    Calls Tryd.prog 4 #[.slice a len cap, .slice ca clen ccap, .int .i64 ties] W fun e W' => TrueEnd W e W' := by
  have hmin := min2000 len m hm
  have g1 : (m : Int) ≤ (cap : Int) := by omega
  have g2 : m ≤ cap := by omega
  have g3 : m ≤ 2000 := by omega
  have HA := hd ha
  have HCA := hd hca
  have HCZ := hd hcz
  have HG := hd G
  have HL := hd hl
  have HB := hd hb
  clear ha hca hcz G hl hb hm hc
  go_enter Tryd.func4, Tryd.ntmps4
  go_wp2_with fail
  refine (works_ok W HG.out).mono ?_
  rintro e w1 ⟨rfl, hk⟩
  have B1 := hd hk
  clear hk
  go_wp2_with fail
  refine (new_ok w1).mono ?_
  rintro e w2 ⟨kb, rfl, hkb, hr, hk⟩
  have B2 := hd (below_below B1.out hk)
  have KB := hd (Nat.le_trans B1.out.size hkb)
  have R2 : Hid (Row w2 kb 49 (kc (l.take 0))) := hd (by rw [List.take_zero]; exact hr)
  clear hr hk hkb B1
  go_wp2_with fail
  go_loopw [8, 9] (fun t i wr => ∃ k t' : Nat, k ≤ 30 ∧ i = .int .i64 (k : Int) ∧ t = .int .i64 (t' : Int) ∧ t' ≤ m ∧ Row wr kb 49 (kc (l.take t')) ∧ Below W.heap.size W wr) (fun _ i _ => 30 - (intOf i).toNat)
  case atStart => exact ⟨0, 0, Nat.zero_le _, rfl, rfl, Nat.zero_le _, R2.out, B2.out⟩
  case round =>
    clear R2 B2 w2 w1
    obtain ⟨k, t, hk, rfl, rfl, ht, hr, hbl⟩ := hrel
    have HR := hd hr
    have HBL := hd hbl
    clear hr hbl
    by_cases hlt : k < clen ∧ k < 30
    · have hlt1 : (k : Int) < (clen : Int) := by omega
      have hlt2 : (k : Int) < 30 := by omega
      rcases HCA.out with h0 | ⟨cg, co, rfl, hcg, hcc⟩
      · omega
      have c1 : wr.cell? ⟨cg, co + k, none⟩ = some (.int .i64 (cz.getD k 0)) := by
        rw [(kpB HBL.out (fun _ => False)).cell (p := ⟨cg, co + k, none⟩) hcg (fun h => h)]
        exact hcc k hlt.1
      clear hcc hcg
      have hcb := HCZ.out k
      generalize cz.getD k 0 = z at *
      by_cases hct : cap = t
      · subst hct
        have e1 : IntKind.i64.wrap ((m : Int) - (cap : Int)) = ((m - cap : Nat) : Int) := by rw [IntKind.wrap_i64]; omega
        have e2 : IntKind.i64.wrap (((m - cap : Nat) : Int) + 1) = ((m - cap + 1 : Nat) : Int) := by rw [IntKind.wrap_i64]; omega
        have BR := hd (fun w => bring_any z ((m - cap + 1 : Nat) : Int) w hcb.1 hcb.2 (by omega) (by omega))
        obtain ⟨n, hn⟩ : ∃ n : Nat, z % ((m - cap + 1 : Nat) : Int) = (n : Int) := ⟨(z % ((m - cap + 1 : Nat) : Int)).toNat, by have := Int.emod_nonneg z (b := ((m - cap + 1 : Nat) : Int)) (by omega); omega⟩
        have hnb : n < m - cap + 1 := by have := Int.emod_lt_of_pos z (b := ((m - cap + 1 : Nat) : Int)) (by omega); omega
        rw [hn] at BR
        clear hn hcb
        have e3 : IntKind.i64.wrap ((cap : Int) + (n : Int)) = ((cap + n : Nat) : Int) := by rw [IntKind.wrap_i64]; omega
        have HT : Hid (l.take cap ++ (l.drop cap).take n = l.take (cap + n)) := hd (by rw [List.take_add])
        have i1 : (cap : Int) ≤ ((cap + n : Nat) : Int) := by omega
        have i2 : ((cap + n : Nat) : Int) ≤ (cap : Int) := by omega
        have i3 : cap ≤ cap + n := by omega
        have i4 : cap + n ≤ cap := by omega
        have i5 : (0 : Int) ≤ (cap : Int) := by omega
        have HK := hd (And.intro hk (And.intro ht hnb))
        have i6 : cap + n - cap = n := by omega
        generalize hs : cap + n = s at *
        have HS := hd (And.intro hs (show s ≤ m by omega))
        clear hs
        generalize m - cap + 1 = q at *
        generalize ((m - cap : Nat) : Int) = p at *
        go_wp2_with fail
        refine (BR.out _).mono ?_
        rintro e w3 ⟨rfl, rfl⟩
        clear BR
        go_wp2_with fail
        refine (add_ok (m := (l.drop cap).take n) HR.out (by
          first
            | exact (piece1 HA.out HL.out cap n cap (by have := HS.out; omega) (by have := HS.out; omega) (by omega)).ap HBL.out KB.out
            | exact (piece2 HA.out HL.out _ n cap (by have := HS.out; omega) (by omega) rfl).ap HBL.out KB.out) (by rw [List.length_take, HL.out]; omega) (HB.out.take cap) ((HB.out.drop cap).take n)).mono ?_
        rintro e w4 ⟨rfl, hr, hkp⟩
        rw [HT.out] at hr
        have HR4 := hd hr
        have HB4 : Hid (Below W.heap.size W w4) := hd (below_kp HBL.out hkp KB.out HBL.out.size)
        clear hr hkp
        have LT : Hid ((l.take s).length = s) := hd (by have := HS.out; rw [List.length_take, HL.out]; omega)
        have SO : Hid (Sl W (.slice a s cap) (l.take s)) := front HA.out HL.out s cap (by have := HS.out; omega) (by omega) (by omega)
        have j1 : (s : Int) ≤ (cap : Int) := by have := HS.out; omega
        have hany := Ltr.any w4
        have e28 := fun w => eq28 (Sha.dig (l.take s)) (dig_len _) w
        have TI : Hid (∀ p : Ltr w4, Calls Tryd.prog 10 #[.pointer (some ⟨kb, 0, none⟩)] p.to fun e w'' => e = .returned (.agg (bs (Sha.dig (l.take s))).toArray) ∧ ∃ q : Ltr w4, w'' = q.to) := fun p => later_of (tie_ok (HR4.out.keep p.bel HR4.out.lt) (by rw [LT.out]; have := HS.out; omega) (HB.out.take s))
        have OF : Hid (∀ p : Ltr w4, Calls Tryd.prog 13 #[.slice a s cap] p.to fun e w'' => e = .returned (.agg (bs (Sha.dig (l.take s))).toArray) ∧ ∃ q : Ltr w4, w'' = q.to) := fun p => later_of (of_ok (SO.out.keep (below_below HB4.out p.bel)) (by rw [LT.out]; have := HS.out; omega) (HB.out.take s))
        have LE : Hid (∀ p : Ltr w4, Calls Tryd.prog 12 #[.pointer (some ⟨kb, 0, none⟩)] p.to fun e w'' => e = .returned (.int .i64 (s : Int)) ∧ ∃ q : Ltr w4, w'' = q.to) := fun p => later_same (by
          have h := len_ok kb p.to _ _ _ _ rfl (Sha.pad_len _ (by rw [Sha.rest_len]; omega)) (HR4.out.keep p.bel HR4.out.lt)
          rw [LT.out] at h
          exact h)
        generalize (bs (Sha.dig (l.take s))).toArray = dg at *
        have k1 : (k : Int) ≤ 64 := by omega
        have k0 : (0 : Int) ≤ (k : Int) := by omega
        obtain ⟨β, e7⟩ : ∃ β, bits .and .i64 (ties / 2 ^ k) 1 = β := ⟨_, rfl⟩
        by_cases hβ : β = 1
        · subst hβ
          go_wp2_with fail
          refine wp_region_later (by kernel_rfl) (by kernel_rfl) ?_
          repeat (go_big_quiet_step (first | (go_at_call 10; exact TI.out _) | (go_at_call 13; exact OF.out _) | (go_at_call 12; exact LE.out _)))
          refine wpQuiet_nil ?_
          rintro _ ⟨p, rfl⟩
          go_wp2_with fail
          go_roundw
          case rel => exact ⟨k + 1, s, by have := HK.out; omega, by go_num, rfl, HS.out.2, HR4.out.keep p.bel HR4.out.lt, below_below HB4.out p.bel⟩
          case measure => simp [intOf]; omega
        · have hβ' : (β == 1) = false := by rw [beq_eq_false_iff_ne]; exact hβ
          clear hβ
          go_wp2_with fail
          refine wp_region_later (by kernel_rfl) (by kernel_rfl) ?_
          repeat (go_big_quiet_step (first | (go_at_call 10; exact TI.out _) | (go_at_call 13; exact OF.out _) | (go_at_call 12; exact LE.out _)))
          refine wpQuiet_nil ?_
          rintro _ ⟨p, rfl⟩
          go_wp2_with fail
          go_roundw
          case rel => exact ⟨k + 1, s, by have := HK.out; omega, by go_num, rfl, HS.out.2, HR4.out.keep p.bel HR4.out.lt, below_below HB4.out p.bel⟩
          case measure => simp [intOf]; omega
      · have n1 : ¬ cap = t := hct
        clear hct
        have e1 : IntKind.i64.wrap ((m : Int) - (t : Int)) = ((m - t : Nat) : Int) := by rw [IntKind.wrap_i64]; omega
        have e2 : IntKind.i64.wrap (((m - t : Nat) : Int) + 1) = ((m - t + 1 : Nat) : Int) := by rw [IntKind.wrap_i64]; omega
        have BR := hd (fun w => bring_any z ((m - t + 1 : Nat) : Int) w hcb.1 hcb.2 (by omega) (by omega))
        obtain ⟨n, hn⟩ : ∃ n : Nat, z % ((m - t + 1 : Nat) : Int) = (n : Int) := ⟨(z % ((m - t + 1 : Nat) : Int)).toNat, by have := Int.emod_nonneg z (b := ((m - t + 1 : Nat) : Int)) (by omega); omega⟩
        have hnb : n < m - t + 1 := by have := Int.emod_lt_of_pos z (b := ((m - t + 1 : Nat) : Int)) (by omega); omega
        rw [hn] at BR
        clear hn hcb
        have e3 : IntKind.i64.wrap ((t : Int) + (n : Int)) = ((t + n : Nat) : Int) := by rw [IntKind.wrap_i64]; omega
        have HT : Hid (l.take t ++ (l.drop t).take n = l.take (t + n)) := hd (by rw [List.take_add])
        have i1 : (t : Int) ≤ ((t + n : Nat) : Int) := by omega
        have i2 : ((t + n : Nat) : Int) ≤ (cap : Int) := by omega
        have i3 : t ≤ t + n := by omega
        have i4 : t + n ≤ cap := by omega
        have i5 : (0 : Int) ≤ (t : Int) := by omega
        have HK := hd (And.intro hk (And.intro ht hnb))
        have i6 : t + n - t = n := by omega
        generalize hs : t + n = s at *
        have HS := hd (And.intro hs (show s ≤ m by omega))
        clear hs
        generalize m - t + 1 = q at *
        generalize ((m - t : Nat) : Int) = p at *
        go_wp2_with fail
        refine (BR.out _).mono ?_
        rintro e w3 ⟨rfl, rfl⟩
        clear BR
        go_wp2_with fail
        refine (add_ok (m := (l.drop t).take n) HR.out (by
          first
            | exact (piece1 HA.out HL.out t n cap (by have := HS.out; omega) (by have := HS.out; omega) (by omega)).ap HBL.out KB.out
            | exact (piece2 HA.out HL.out _ n cap (by have := HS.out; omega) (by omega) rfl).ap HBL.out KB.out) (by rw [List.length_take, HL.out]; omega) (HB.out.take t) ((HB.out.drop t).take n)).mono ?_
        rintro e w4 ⟨rfl, hr, hkp⟩
        rw [HT.out] at hr
        have HR4 := hd hr
        have HB4 : Hid (Below W.heap.size W w4) := hd (below_kp HBL.out hkp KB.out HBL.out.size)
        clear hr hkp
        have LT : Hid ((l.take s).length = s) := hd (by have := HS.out; rw [List.length_take, HL.out]; omega)
        have SO : Hid (Sl W (.slice a s cap) (l.take s)) := front HA.out HL.out s cap (by have := HS.out; omega) (by omega) (by omega)
        have j1 : (s : Int) ≤ (cap : Int) := by have := HS.out; omega
        have hany := Ltr.any w4
        have e28 := fun w => eq28 (Sha.dig (l.take s)) (dig_len _) w
        have TI : Hid (∀ p : Ltr w4, Calls Tryd.prog 10 #[.pointer (some ⟨kb, 0, none⟩)] p.to fun e w'' => e = .returned (.agg (bs (Sha.dig (l.take s))).toArray) ∧ ∃ q : Ltr w4, w'' = q.to) := fun p => later_of (tie_ok (HR4.out.keep p.bel HR4.out.lt) (by rw [LT.out]; have := HS.out; omega) (HB.out.take s))
        have OF : Hid (∀ p : Ltr w4, Calls Tryd.prog 13 #[.slice a s cap] p.to fun e w'' => e = .returned (.agg (bs (Sha.dig (l.take s))).toArray) ∧ ∃ q : Ltr w4, w'' = q.to) := fun p => later_of (of_ok (SO.out.keep (below_below HB4.out p.bel)) (by rw [LT.out]; have := HS.out; omega) (HB.out.take s))
        have LE : Hid (∀ p : Ltr w4, Calls Tryd.prog 12 #[.pointer (some ⟨kb, 0, none⟩)] p.to fun e w'' => e = .returned (.int .i64 (s : Int)) ∧ ∃ q : Ltr w4, w'' = q.to) := fun p => later_same (by
          have h := len_ok kb p.to _ _ _ _ rfl (Sha.pad_len _ (by rw [Sha.rest_len]; omega)) (HR4.out.keep p.bel HR4.out.lt)
          rw [LT.out] at h
          exact h)
        generalize (bs (Sha.dig (l.take s))).toArray = dg at *
        have k1 : (k : Int) ≤ 64 := by omega
        have k0 : (0 : Int) ≤ (k : Int) := by omega
        obtain ⟨β, e7⟩ : ∃ β, bits .and .i64 (ties / 2 ^ k) 1 = β := ⟨_, rfl⟩
        by_cases hβ : β = 1
        · subst hβ
          go_wp2_with fail
          refine wp_region_later (by kernel_rfl) (by kernel_rfl) ?_
          repeat (go_big_quiet_step (first | (go_at_call 10; exact TI.out _) | (go_at_call 13; exact OF.out _) | (go_at_call 12; exact LE.out _)))
          refine wpQuiet_nil ?_
          rintro _ ⟨p, rfl⟩
          go_wp2_with fail
          go_roundw
          case rel => exact ⟨k + 1, s, by have := HK.out; omega, by go_num, rfl, HS.out.2, HR4.out.keep p.bel HR4.out.lt, below_below HB4.out p.bel⟩
          case measure => simp [intOf]; omega
        · have hβ' : (β == 1) = false := by rw [beq_eq_false_iff_ne]; exact hβ
          clear hβ
          go_wp2_with fail
          refine wp_region_later (by kernel_rfl) (by kernel_rfl) ?_
          repeat (go_big_quiet_step (first | (go_at_call 10; exact TI.out _) | (go_at_call 13; exact OF.out _) | (go_at_call 12; exact LE.out _)))
          refine wpQuiet_nil ?_
          rintro _ ⟨p, rfl⟩
          go_wp2_with fail
          go_roundw
          case rel => exact ⟨k + 1, s, by have := HK.out; omega, by go_num, rfl, HS.out.2, HR4.out.keep p.bel HR4.out.lt, below_below HB4.out p.bel⟩
          case measure => simp [intOf]; omega
    · by_cases hk2 : k < clen
      · have hk3 : k = 30 := by omega
        subst hk3
        rw [show ((30 : Nat) : Int) = 30 from rfl]
        have hk4 : (30 : Int) < (clen : Int) := by omega
        clear hlt hk
        by_cases hct : cap = t
        · subst hct
          have e1 : IntKind.i64.wrap ((m : Int) - (cap : Int)) = ((m - cap : Nat) : Int) := by rw [IntKind.wrap_i64]; omega
          have i1 : (cap : Int) ≤ (m : Int) := by omega
          have HT : Hid (l.take cap ++ (l.drop cap).take (m - cap) = l) := hd (by rw [List.take_of_length_le (l := l.drop cap) (by rw [List.length_drop, HL.out]; exact Nat.le_refl _), List.take_append_drop])
          have SO : Hid (Sl W (.slice a m cap) l) := hd (by
            have h := front HA.out HL.out m cap (Nat.le_refl _) g2 (by omega)
            rw [List.take_of_length_le (by rw [HL.out]; exact Nat.le_refl _)] at h
            exact h)
          go_wp2_with fail
          refine (add_ok (m := (l.drop cap).take (m - cap)) HR.out (by
            first
              | exact (piece1 HA.out HL.out cap (m - cap) cap (by omega) (by omega) (by omega)).ap HBL.out KB.out
              | exact (piece2 HA.out HL.out _ (m - cap) cap (by omega) (by omega) rfl).ap HBL.out KB.out
              | exact (piece3 HA.out HL.out cap (by omega)).ap HBL.out KB.out) (by rw [List.length_take, HL.out]; omega) (HB.out.take cap) ((HB.out.drop cap).take _)).mono ?_
          rintro e w4 ⟨rfl, hr, hkp⟩
          rw [HT.out] at hr
          have HR4 := hd hr
          have HB4 : Hid (Below W.heap.size W w4) := hd (below_kp HBL.out hkp KB.out HBL.out.size)
          clear hr hkp HR HBL
          have e28 := fun w => eq28 (Sha.dig l) (dig_len _) w
          have LX : Hid (l.length ≤ 70368744177664) := hd (by rw [HL.out]; omega)
          go_wp2_with fail
          refine (tie_ok HR4.out LX.out HB.out).mono ?_
          rintro e w5 ⟨rfl, hk5⟩
          have HR5 := hd (HR4.out.keep hk5 HR4.out.lt)
          have HB5 := hd (below_below HB4.out hk5)
          clear hk5 HR4 HB4
          go_wp2_with fail
          refine (of_ok (SO.out.keep HB5.out) LX.out HB.out).mono ?_
          rintro e w6 ⟨rfl, hk6⟩
          have HR6 := hd (HR5.out.keep hk6 HR5.out.lt)
          have HB6 := hd (below_below HB5.out hk6)
          clear hk6 HR5 HB5
          go_wp2_with fail
          refine (tie_ok HR6.out LX.out HB.out).mono ?_
          rintro e w7 ⟨rfl, hk7⟩
          have HR7 := hd (HR6.out.keep hk7 HR6.out.lt)
          have HB7 := hd (below_below HB6.out hk7)
          clear hk7 HR6 HB6
          go_wp2_with fail
          refine (of_ok (SO.out.keep HB7.out) LX.out HB.out).mono ?_
          rintro e w8 ⟨rfl, hk8⟩
          have HR8 := hd (HR7.out.keep hk8 HR7.out.lt)
          have HB8 := hd (below_below HB7.out hk8)
          clear hk8 HR7 HB7
          go_wp2_with fail
          have LE : Hid (Calls Tryd.prog 12 #[.pointer (some ⟨kb, 0, none⟩)] w8 fun e w' => e = .returned (.int .i64 (m : Int)) ∧ w' = w8) := hd (by
            have h := len_ok kb w8 _ _ _ _ rfl (Sha.pad_len _ (by rw [Sha.rest_len]; omega)) HR8.out
            rw [HL.out] at h
            exact h)
          refine LE.out.mono ?_
          rintro e w9 ⟨rfl, rfl⟩
          go_wp2_with fail
          go_ret
          exact ⟨rfl, HB8.out⟩
        · have n1 : ¬ cap = t := hct
          clear hct
          have e1 : IntKind.i64.wrap ((m : Int) - (t : Int)) = ((m - t : Nat) : Int) := by rw [IntKind.wrap_i64]; omega
          have i1 : (t : Int) ≤ (m : Int) := by omega
          have HT : Hid (l.take t ++ (l.drop t).take (m - t) = l) := hd (by rw [List.take_of_length_le (l := l.drop t) (by rw [List.length_drop, HL.out]; exact Nat.le_refl _), List.take_append_drop])
          have SO : Hid (Sl W (.slice a m cap) l) := hd (by
            have h := front HA.out HL.out m cap (Nat.le_refl _) g2 (by omega)
            rw [List.take_of_length_le (by rw [HL.out]; exact Nat.le_refl _)] at h
            exact h)
          go_wp2_with fail
          refine (add_ok (m := (l.drop t).take (m - t)) HR.out (by
            first
              | exact (piece1 HA.out HL.out t (m - t) cap (by omega) (by omega) (by omega)).ap HBL.out KB.out
              | exact (piece2 HA.out HL.out _ (m - t) cap (by omega) (by omega) rfl).ap HBL.out KB.out
              | exact (piece3 HA.out HL.out cap (by omega)).ap HBL.out KB.out) (by rw [List.length_take, HL.out]; omega) (HB.out.take t) ((HB.out.drop t).take _)).mono ?_
          rintro e w4 ⟨rfl, hr, hkp⟩
          rw [HT.out] at hr
          have HR4 := hd hr
          have HB4 : Hid (Below W.heap.size W w4) := hd (below_kp HBL.out hkp KB.out HBL.out.size)
          clear hr hkp HR HBL
          have e28 := fun w => eq28 (Sha.dig l) (dig_len _) w
          have LX : Hid (l.length ≤ 70368744177664) := hd (by rw [HL.out]; omega)
          go_wp2_with fail
          refine (tie_ok HR4.out LX.out HB.out).mono ?_
          rintro e w5 ⟨rfl, hk5⟩
          have HR5 := hd (HR4.out.keep hk5 HR4.out.lt)
          have HB5 := hd (below_below HB4.out hk5)
          clear hk5 HR4 HB4
          go_wp2_with fail
          refine (of_ok (SO.out.keep HB5.out) LX.out HB.out).mono ?_
          rintro e w6 ⟨rfl, hk6⟩
          have HR6 := hd (HR5.out.keep hk6 HR5.out.lt)
          have HB6 := hd (below_below HB5.out hk6)
          clear hk6 HR5 HB5
          go_wp2_with fail
          refine (tie_ok HR6.out LX.out HB.out).mono ?_
          rintro e w7 ⟨rfl, hk7⟩
          have HR7 := hd (HR6.out.keep hk7 HR6.out.lt)
          have HB7 := hd (below_below HB6.out hk7)
          clear hk7 HR6 HB6
          go_wp2_with fail
          refine (of_ok (SO.out.keep HB7.out) LX.out HB.out).mono ?_
          rintro e w8 ⟨rfl, hk8⟩
          have HR8 := hd (HR7.out.keep hk8 HR7.out.lt)
          have HB8 := hd (below_below HB7.out hk8)
          clear hk8 HR7 HB7
          go_wp2_with fail
          have LE : Hid (Calls Tryd.prog 12 #[.pointer (some ⟨kb, 0, none⟩)] w8 fun e w' => e = .returned (.int .i64 (m : Int)) ∧ w' = w8) := hd (by
            have h := len_ok kb w8 _ _ _ _ rfl (Sha.pad_len _ (by rw [Sha.rest_len]; omega)) HR8.out
            rw [HL.out] at h
            exact h)
          refine LE.out.mono ?_
          rintro e w9 ⟨rfl, rfl⟩
          go_wp2_with fail
          go_ret
          exact ⟨rfl, HB8.out⟩
      · have hk4 : ¬ ((k : Int) < (clen : Int)) := by omega
        have hk5 : (clen : Int) ≤ (k : Int) := by omega
        clear hlt
        by_cases hct : cap = t
        · subst hct
          have e1 : IntKind.i64.wrap ((m : Int) - (cap : Int)) = ((m - cap : Nat) : Int) := by rw [IntKind.wrap_i64]; omega
          have i1 : (cap : Int) ≤ (m : Int) := by omega
          have HT : Hid (l.take cap ++ (l.drop cap).take (m - cap) = l) := hd (by rw [List.take_of_length_le (l := l.drop cap) (by rw [List.length_drop, HL.out]; exact Nat.le_refl _), List.take_append_drop])
          have SO : Hid (Sl W (.slice a m cap) l) := hd (by
            have h := front HA.out HL.out m cap (Nat.le_refl _) g2 (by omega)
            rw [List.take_of_length_le (by rw [HL.out]; exact Nat.le_refl _)] at h
            exact h)
          go_wp2_with fail
          refine (add_ok (m := (l.drop cap).take (m - cap)) HR.out (by
            first
              | exact (piece1 HA.out HL.out cap (m - cap) cap (by omega) (by omega) (by omega)).ap HBL.out KB.out
              | exact (piece2 HA.out HL.out _ (m - cap) cap (by omega) (by omega) rfl).ap HBL.out KB.out
              | exact (piece3 HA.out HL.out cap (by omega)).ap HBL.out KB.out) (by rw [List.length_take, HL.out]; omega) (HB.out.take cap) ((HB.out.drop cap).take _)).mono ?_
          rintro e w4 ⟨rfl, hr, hkp⟩
          rw [HT.out] at hr
          have HR4 := hd hr
          have HB4 : Hid (Below W.heap.size W w4) := hd (below_kp HBL.out hkp KB.out HBL.out.size)
          clear hr hkp HR HBL
          have e28 := fun w => eq28 (Sha.dig l) (dig_len _) w
          have LX : Hid (l.length ≤ 70368744177664) := hd (by rw [HL.out]; omega)
          go_wp2_with fail
          refine (tie_ok HR4.out LX.out HB.out).mono ?_
          rintro e w5 ⟨rfl, hk5⟩
          have HR5 := hd (HR4.out.keep hk5 HR4.out.lt)
          have HB5 := hd (below_below HB4.out hk5)
          clear hk5 HR4 HB4
          go_wp2_with fail
          refine (of_ok (SO.out.keep HB5.out) LX.out HB.out).mono ?_
          rintro e w6 ⟨rfl, hk6⟩
          have HR6 := hd (HR5.out.keep hk6 HR5.out.lt)
          have HB6 := hd (below_below HB5.out hk6)
          clear hk6 HR5 HB5
          go_wp2_with fail
          refine (tie_ok HR6.out LX.out HB.out).mono ?_
          rintro e w7 ⟨rfl, hk7⟩
          have HR7 := hd (HR6.out.keep hk7 HR6.out.lt)
          have HB7 := hd (below_below HB6.out hk7)
          clear hk7 HR6 HB6
          go_wp2_with fail
          refine (of_ok (SO.out.keep HB7.out) LX.out HB.out).mono ?_
          rintro e w8 ⟨rfl, hk8⟩
          have HR8 := hd (HR7.out.keep hk8 HR7.out.lt)
          have HB8 := hd (below_below HB7.out hk8)
          clear hk8 HR7 HB7
          go_wp2_with fail
          have LE : Hid (Calls Tryd.prog 12 #[.pointer (some ⟨kb, 0, none⟩)] w8 fun e w' => e = .returned (.int .i64 (m : Int)) ∧ w' = w8) := hd (by
            have h := len_ok kb w8 _ _ _ _ rfl (Sha.pad_len _ (by rw [Sha.rest_len]; omega)) HR8.out
            rw [HL.out] at h
            exact h)
          refine LE.out.mono ?_
          rintro e w9 ⟨rfl, rfl⟩
          go_wp2_with fail
          go_ret
          exact ⟨rfl, HB8.out⟩
        · have n1 : ¬ cap = t := hct
          clear hct
          have e1 : IntKind.i64.wrap ((m : Int) - (t : Int)) = ((m - t : Nat) : Int) := by rw [IntKind.wrap_i64]; omega
          have i1 : (t : Int) ≤ (m : Int) := by omega
          have HT : Hid (l.take t ++ (l.drop t).take (m - t) = l) := hd (by rw [List.take_of_length_le (l := l.drop t) (by rw [List.length_drop, HL.out]; exact Nat.le_refl _), List.take_append_drop])
          have SO : Hid (Sl W (.slice a m cap) l) := hd (by
            have h := front HA.out HL.out m cap (Nat.le_refl _) g2 (by omega)
            rw [List.take_of_length_le (by rw [HL.out]; exact Nat.le_refl _)] at h
            exact h)
          go_wp2_with fail
          refine (add_ok (m := (l.drop t).take (m - t)) HR.out (by
            first
              | exact (piece1 HA.out HL.out t (m - t) cap (by omega) (by omega) (by omega)).ap HBL.out KB.out
              | exact (piece2 HA.out HL.out _ (m - t) cap (by omega) (by omega) rfl).ap HBL.out KB.out
              | exact (piece3 HA.out HL.out cap (by omega)).ap HBL.out KB.out) (by rw [List.length_take, HL.out]; omega) (HB.out.take t) ((HB.out.drop t).take _)).mono ?_
          rintro e w4 ⟨rfl, hr, hkp⟩
          rw [HT.out] at hr
          have HR4 := hd hr
          have HB4 : Hid (Below W.heap.size W w4) := hd (below_kp HBL.out hkp KB.out HBL.out.size)
          clear hr hkp HR HBL
          have e28 := fun w => eq28 (Sha.dig l) (dig_len _) w
          have LX : Hid (l.length ≤ 70368744177664) := hd (by rw [HL.out]; omega)
          go_wp2_with fail
          refine (tie_ok HR4.out LX.out HB.out).mono ?_
          rintro e w5 ⟨rfl, hk5⟩
          have HR5 := hd (HR4.out.keep hk5 HR4.out.lt)
          have HB5 := hd (below_below HB4.out hk5)
          clear hk5 HR4 HB4
          go_wp2_with fail
          refine (of_ok (SO.out.keep HB5.out) LX.out HB.out).mono ?_
          rintro e w6 ⟨rfl, hk6⟩
          have HR6 := hd (HR5.out.keep hk6 HR5.out.lt)
          have HB6 := hd (below_below HB5.out hk6)
          clear hk6 HR5 HB5
          go_wp2_with fail
          refine (tie_ok HR6.out LX.out HB.out).mono ?_
          rintro e w7 ⟨rfl, hk7⟩
          have HR7 := hd (HR6.out.keep hk7 HR6.out.lt)
          have HB7 := hd (below_below HB6.out hk7)
          clear hk7 HR6 HB6
          go_wp2_with fail
          refine (of_ok (SO.out.keep HB7.out) LX.out HB.out).mono ?_
          rintro e w8 ⟨rfl, hk8⟩
          have HR8 := hd (HR7.out.keep hk8 HR7.out.lt)
          have HB8 := hd (below_below HB7.out hk8)
          clear hk8 HR7 HB7
          go_wp2_with fail
          have LE : Hid (Calls Tryd.prog 12 #[.pointer (some ⟨kb, 0, none⟩)] w8 fun e w' => e = .returned (.int .i64 (m : Int)) ∧ w' = w8) := hd (by
            have h := len_ok kb w8 _ _ _ _ rfl (Sha.pad_len _ (by rw [Sha.rest_len]; omega)) HR8.out
            rw [HL.out] at h
            exact h)
          refine LE.out.mono ?_
          rintro e w9 ⟨rfl, rfl⟩
          go_wp2_with fail
          go_ret
          exact ⟨rfl, HB8.out⟩

end Go.Proofs.YtopgjeakkpedlaaDoor.knotPieces
