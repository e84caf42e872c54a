/- How a block is tied in. -/
import Derived.Test.YteefpbeglmnilaaDoorSp
namespace Go.Proofs.YteefpbeglmnilaaDoor
open Go.RowKit
set_option linter.unusedVariables false

/-- Bytes as cells. -/
def bs (l : List Int) : List Value := l.map (Value.int .u8)
theorem bs_len (l : List Int) : (bs l).length = l.length := by simp [bs]

/-- The cells of a knot. -/
def kn (r : Sha.R) (K : List (BitVec 32)) (p : List Int) (s : Int) : List Value := Value.bool true :: (ws r.list ++ (ws K ++ (bs p ++ [.int .i64 s])))

theorem kn_len (r : Sha.R) (K : List (BitVec 32)) (p : List Int) (s : Int) (hK : K.length = 64) (hp : p.length = 64) : (kn r K p s).length = 138 := by
  simp [kn, ws_len, bs_len, hK, hp, Sha.R.list]

theorem kn_word (r : Sha.R) (K : List (BitVec 32)) (p : List Int) (s : Int) (i : Nat) (hi : i < 8) : (kn r K p s)[1 + i]? = some (.int .u32 ((Sha.at_ r.list i).toNat : Int)) := by
  have hl : i < (ws r.list).length := by rw [ws_len]; exact hi
  rw [kn, show 1 + i = i + 1 by omega, List.getElem?_cons_succ, List.getElem?_append_left hl, ← ws_get, List.getD_eq_getElem?_getD, List.getElem?_eq_getElem hl]
  rfl
theorem kn_each (r : Sha.R) (K : List (BitVec 32)) (p : List Int) (s : Int) (hK : K.length = 64) (i : Nat) (hi : i < 64) : (kn r K p s)[9 + i]? = some (.int .u32 ((Sha.at_ K i).toNat : Int)) := by
  have hl : i < (ws K).length := by rw [ws_len, hK]; exact hi
  rw [kn, show 9 + i = (8 + i) + 1 by omega, List.getElem?_cons_succ, List.getElem?_append_right (by simp [ws_len, Sha.R.list])]
  rw [show 8 + i - (ws r.list).length = i by simp [ws_len, Sha.R.list], List.getElem?_append_left hl, ← ws_get, List.getD_eq_getElem?_getD, List.getElem?_eq_getElem hl]
  rfl
theorem kn_part (r : Sha.R) (K : List (BitVec 32)) (p : List Int) (s : Int) (hK : K.length = 64) (i : Nat) (hi : i < p.length) : (kn r K p s)[73 + i]? = some (.int .u8 (p.getD i 0)) := by
  have hl : i < (bs p).length := by rw [bs_len]; exact hi
  rw [kn, show 73 + i = (72 + i) + 1 by omega, List.getElem?_cons_succ, List.getElem?_append_right (by simp [ws_len, Sha.R.list]; omega)]
  rw [show 72 + i - (ws r.list).length = 64 + i by simp [ws_len, Sha.R.list]; omega, List.getElem?_append_right (by rw [ws_len, hK]; omega)]
  rw [show 64 + i - (ws K).length = i by rw [ws_len, hK]; omega, List.getElem?_append_left hl, bs, List.getElem?_map, List.getElem?_eq_getElem hi, List.getD_eq_getElem?_getD, List.getElem?_eq_getElem hi]
  rfl
theorem kn_size (r : Sha.R) (K : List (BitVec 32)) (p : List Int) (s : Int) (hK : K.length = 64) (hp : p.length = 64) : (kn r K p s)[137]? = some (.int .i64 s) := by
  rw [kn, show 137 = 136 + 1 by omega, List.getElem?_cons_succ, List.getElem?_append_right (by simp [ws_len, Sha.R.list])]
  rw [show 136 - (ws r.list).length = 128 by simp [ws_len, Sha.R.list], List.getElem?_append_right (by rw [ws_len, hK]; omega)]
  rw [show 128 - (ws K).length = 64 by rw [ws_len, hK], List.getElem?_append_right (by rw [bs_len, hp]; omega), bs_len, hp]
  rfl

theorem Row.get {w : World} {b : Nat} {t : TypeId} {vs : List Value} (h : Row w b t vs) {i : Nat} {v : Value} (hi : vs[i]? = some v) : w.cell? ⟨b, i, none⟩ = some v := by
  rw [cell_of_row w b i _ t _ h]
  simpa using hi

/-- An element of an array by value: elements of one cell. -/
theorem run_index_in {P : Program} (t e : TypeId) (n : Nat) (cs : Array Value) (i : Nat) (v : Value) (h : P.underlying t = some (.array n e)) (he : ∀ w, (Go.sizeOf e).run P w = .ok 1 w) (ha : ∀ w, (isAgg e).run P w = .ok false w) (hi : i < n) (hv : cs[i]? = some v) (w : World) :
    (Instr.index t (.agg cs) (.int .i64 (i : Int))).run P w = .ok v w := by
  have h0 : (0 : Int) ≤ (i : Int) ∧ (i : Int) < (n : Int) := by omega
  simp [Instr.index, run_underlying h, asIntOf, h0, go_sem, he, ha, hv]
  intro hc
  omega

/-- The words, the first i of which are summed. -/
def Sha.part8 (r s : Sha.R) (i : Nat) : Sha.R :=
  ⟨if 0 < i then r.a + s.a else r.a, if 1 < i then r.b + s.b else r.b, if 2 < i then r.c + s.c else r.c, if 3 < i then r.d + s.d else r.d, if 4 < i then r.e + s.e else r.e, if 5 < i then r.f + s.f else r.f, if 6 < i then r.g + s.g else r.g, if 7 < i then r.h + s.h else r.h⟩

theorem part8_set (r s : Sha.R) (K : List (BitVec 32)) (p : List Int) (z : Int) (i : Nat) (hi : i < 8) :
    (kn (Sha.part8 r s i) K p z).set (1 + i) (.int .u32 ((Sha.at_ r.list i + Sha.at_ s.list i).toNat : Int)) = kn (Sha.part8 r s (i + 1)) K p z := by
  match i, hi with
  | 0, _ | 1, _ | 2, _ | 3, _ | 4, _ | 5, _ | 6, _ | 7, _ => rfl

theorem part8_at (r s : Sha.R) (i : Nat) (hi : i < 8) : Sha.at_ (Sha.part8 r s i).list i = Sha.at_ r.list i := by
  match i, hi with
  | 0, _ | 1, _ | 2, _ | 3, _ | 4, _ | 5, _ | 6, _ | 7, _ => rfl

theorem und42 : Tryd.prog.underlying 62 = some (.array 8 61) := by kernel_rfl

set_option maxRecDepth 100000 in
set_option maxHeartbeats 1600000 in
theorem tieIn_ok (b : Nat) (w : World) (r : Sha.R) (K : List (BitVec 32)) (p : List Int) (s : Int) (hK : K.length = 64) (hp : p.length = 64) (ha : Byt p) (h : Row w b 70 (kn r K p s)) :
    Calls Tryd.prog 33 #[.pointer (some ⟨b, 1, none⟩), .pointer (some ⟨b, 73, none⟩), .pointer (some ⟨b, 9, none⟩)] w fun e w' => e = .returned (.tuple #[]) ∧ Row w' b 70 (kn (Sha.tie K r p) K p s) ∧ Kp (fun k => k = b) w w' := by
  have SP := hd (fun w1 (hh : Row w1 b 70 (kn r K p s)) => spread_ok b 73 w1 p hp ha hh.lt (fun i hi => hh.get (kn_part r K p s hK i (by omega))))
  have c0 := h.get (kn_word r K p s 0 (by omega))
  have c1 := h.get (kn_word r K p s 1 (by omega))
  have c2 := h.get (kn_word r K p s 2 (by omega))
  have c3 := h.get (kn_word r K p s 3 (by omega))
  have c4 := h.get (kn_word r K p s 4 (by omega))
  have c5 := h.get (kn_word r K p s 5 (by omega))
  have c6 := h.get (kn_word r K p s 6 (by omega))
  have c7 := h.get (kn_word r K p s 7 (by omega))
  change _ = some (Value.int .u32 (r.a.toNat : Int)) at c0
  change _ = some (Value.int .u32 (r.b.toNat : Int)) at c1
  change _ = some (Value.int .u32 (r.c.toNat : Int)) at c2
  change _ = some (Value.int .u32 (r.d.toNat : Int)) at c3
  change _ = some (Value.int .u32 (r.e.toNat : Int)) at c4
  change _ = some (Value.int .u32 (r.f.toNat : Int)) at c5
  change _ = some (Value.int .u32 (r.g.toNat : Int)) at c6
  change _ = some (Value.int .u32 (r.h.toNat : Int)) at c7
  have H := hd h
  clear h
  go_enter Tryd.func33, Tryd.ntmps33
  go_wp2_with fail
  go_quiet (fail)
  go_wp2_with fail
  refine (SP.out _ (H.out.drewN nq)).mono ?_
  rintro e w1 ⟨rfl, hb⟩
  have B1 := hd (below_below (below_drewN (Below.refl _ w) nq) hb)
  have H1 := hd (H.out.keep B1.out H.out.lt)
  clear hb c0 c1 c2 c3 c4 c5 c6 c7 H SP
  have LW := hd (Sha.spread_len p)
  have HT : Hid (Sha.tie K r p = Sha.sum r (Sha.times K (Sha.spread p) r 64)) := rfl
  generalize Sha.spread p = W at LW HT
  go_wp2_with fail
  go_loopw [54, 6, 7, 8, 9, 10, 11, 12, 13] (fun i a0 b0 c0 d0 e0 f0 g0 h0 wr => ∃ k : Nat, k ≤ 64 ∧ i = .int .i64 k ∧
    a0 = .int .u32 ((Sha.times K W r k).a.toNat : Int) ∧ b0 = .int .u32 ((Sha.times K W r k).b.toNat : Int) ∧ c0 = .int .u32 ((Sha.times K W r k).c.toNat : Int) ∧ d0 = .int .u32 ((Sha.times K W r k).d.toNat : Int) ∧
    e0 = .int .u32 ((Sha.times K W r k).e.toNat : Int) ∧ f0 = .int .u32 ((Sha.times K W r k).f.toNat : Int) ∧ g0 = .int .u32 ((Sha.times K W r k).g.toNat : Int) ∧ h0 = .int .u32 ((Sha.times K W r k).h.toNat : Int) ∧ ∃ m, wr = w1.drewN m) (fun i _ _ _ _ _ _ _ _ _ => 64 - (intOf i).toNat)
  case atStart => exact ⟨0, Nat.zero_le _, rfl, rfl, rfl, rfl, rfl, rfl, rfl, rfl, rfl, 0, rfl⟩
  case round =>
    obtain ⟨k, hk, rfl, rfl, rfl, rfl, rfl, rfl, rfl, rfl, rfl, m, hwr⟩ := hrel
    have H2 : Hid (Row wr b 70 (kn r K p s)) := hwr ▸ (H1.out.drewN m)
    have HW := hd hwr
    clear hwr
    have HN : Hid (Sha.times K W r (k + 1) = Sha.once (Sha.times K W r k) (Sha.at_ K k) (Sha.at_ W k)) := rfl
    by_cases hlt : k < 64
    · have hlt' : (k : Int) < 64 := by omega
      have i1 : (ws W).toArray[k]? = some (.int .u32 ((Sha.at_ W k).toNat : Int)) := by
        have hl : k < (ws W).length := by rw [ws_len, LW.out]; exact hlt
        rw [List.getElem?_toArray, ← ws_get, List.getD_eq_getElem?_getD, List.getElem?_eq_getElem hl]
        rfl
      have i2 := run_index_in (P := Tryd.prog) 65 61 64 _ k _ und45 Tryd.sizeOf61 Tryd.isAgg61 hlt i1
      clear i1
      have c1 := H2.out.get (kn_each r K p s hK k hlt)
      generalize Sha.at_ W k = x at *
      generalize Sha.at_ K k = y at *
      generalize Sha.times K W r k = tt at *
      obtain ⟨a, b', c, d, e, f, g, h⟩ := tt
      have T1 : ∀ w, Hid (Calls Tryd.prog 50 #[.int .u32 (e.toNat : Int), .int .i64 6] w fun o w' => o = .returned (.int .u32 ((Sha.rr e 6).toNat : Int)) ∧ w' = w) := fun w => turned_ok e 6 (by decide) (by decide) w
      have T2 : ∀ w, Hid (Calls Tryd.prog 50 #[.int .u32 (e.toNat : Int), .int .i64 11] w fun o w' => o = .returned (.int .u32 ((Sha.rr e 11).toNat : Int)) ∧ w' = w) := fun w => turned_ok e 11 (by decide) (by decide) w
      have T3 : ∀ w, Hid (Calls Tryd.prog 50 #[.int .u32 (e.toNat : Int), .int .i64 25] w fun o w' => o = .returned (.int .u32 ((Sha.rr e 25).toNat : Int)) ∧ w' = w) := fun w => turned_ok e 25 (by decide) (by decide) w
      have T4 : ∀ w, Hid (Calls Tryd.prog 50 #[.int .u32 (a.toNat : Int), .int .i64 2] w fun o w' => o = .returned (.int .u32 ((Sha.rr a 2).toNat : Int)) ∧ w' = w) := fun w => turned_ok a 2 (by decide) (by decide) w
      have T5 : ∀ w, Hid (Calls Tryd.prog 50 #[.int .u32 (a.toNat : Int), .int .i64 13] w fun o w' => o = .returned (.int .u32 ((Sha.rr a 13).toNat : Int)) ∧ w' = w) := fun w => turned_ok a 13 (by decide) (by decide) w
      have T6 : ∀ w, Hid (Calls Tryd.prog 50 #[.int .u32 (a.toNat : Int), .int .i64 22] w fun o w' => o = .returned (.int .u32 ((Sha.rr a 22).toNat : Int)) ∧ w' = w) := fun w => turned_ok a 22 (by decide) (by decide) w
      have C1 := fun w => hd (ch_ok e f g w)
      have C2 := fun w => hd (mj_ok a b' c w)
      have x1 := bxor (Sha.rr e 6) (Sha.rr e 11)
      have x2 := bxor (Sha.rr e 6 ^^^ Sha.rr e 11) (Sha.rr e 25)
      have x3 := bxor (Sha.rr a 2) (Sha.rr a 13)
      have x4 := bxor (Sha.rr a 2 ^^^ Sha.rr a 13) (Sha.rr a 22)
      have a1 := badd h (Sha.S1 e)
      have a2 := badd (h + Sha.S1 e) (Sha.ch e f g)
      have a3 := badd (h + Sha.S1 e + Sha.ch e f g) y
      have a4 := badd (h + Sha.S1 e + Sha.ch e f g + y) x
      have a5 := badd (Sha.S0 a) (Sha.mj a b' c)
      have a6 := badd d (h + Sha.S1 e + Sha.ch e f g + y + x)
      have a7 := badd (h + Sha.S1 e + Sha.ch e f g + y + x) (Sha.S0 a + Sha.mj a b' c)
      have HQ : Hid (Sha.times K W r (k + 1) = ⟨(h + Sha.S1 e + Sha.ch e f g + y + x) + (Sha.S0 a + Sha.mj a b' c), a, b', c, d + (h + Sha.S1 e + Sha.ch e f g + y + x), e, f, g⟩) := HN.out
      change bits .xor .u32 _ _ = ((Sha.S1 e).toNat : Int) at x2
      change bits .xor .u32 _ _ = ((Sha.S0 a).toNat : Int) at x4
      clear HN
      generalize Sha.S1 e = z1 at *
      generalize Sha.S0 a = z2 at *
      generalize Sha.ch e f g = z3 at *
      generalize Sha.mj a b' c = z4 at *
      generalize Sha.rr e 6 ^^^ Sha.rr e 11 = z5 at *
      generalize Sha.rr a 2 ^^^ Sha.rr a 13 = z6 at *
      generalize Sha.rr e 6 = r1 at *
      generalize Sha.rr e 11 = r2 at *
      generalize Sha.rr e 25 = r3 at *
      generalize Sha.rr a 2 = r4 at *
      generalize Sha.rr a 13 = r5 at *
      generalize Sha.rr a 22 = r6 at *
      generalize h + z1 + z3 + y + x = t1 at *
      generalize h + z1 + z3 + y = t2 at *
      generalize h + z1 + z3 = t3 at *
      generalize h + z1 = t4 at *
      generalize z2 + z4 = u1 at *
      generalize d + t1 = v1 at *
      generalize t1 + u1 = v2 at *
      have HV : Hid (((a.toNat : Int) = a.toNat)) := rfl
      generalize hα : (a.toNat : Int) = α at *
      generalize hβ : (b'.toNat : Int) = β at *
      generalize hγ : (c.toNat : Int) = γ at *
      generalize (d.toNat : Int) = δ at *
      generalize hε : (e.toNat : Int) = ε at *
      generalize hφ : (f.toNat : Int) = φ at *
      generalize hψ : (g.toNat : Int) = ψ at *
      generalize (h.toNat : Int) = η at *
      generalize (x.toNat : Int) = ξ at *
      generalize (y.toNat : Int) = υ at *
      generalize hv1 : (v1.toNat : Int) = ν1 at *
      generalize hv2 : (v2.toNat : Int) = ν2 at *
      generalize (u1.toNat : Int) = μ1 at *
      generalize (t1.toNat : Int) = τ1 at *
      generalize (t2.toNat : Int) = τ2 at *
      generalize (t3.toNat : Int) = τ3 at *
      generalize (t4.toNat : Int) = τ4 at *
      generalize (z1.toNat : Int) = ζ1 at *
      generalize (z2.toNat : Int) = ζ2 at *
      generalize (z3.toNat : Int) = ζ3 at *
      generalize (z4.toNat : Int) = ζ4 at *
      generalize (z5.toNat : Int) = ζ5 at *
      generalize (z6.toNat : Int) = ζ6 at *
      generalize (r1.toNat : Int) = ρ1 at *
      generalize (r2.toNat : Int) = ρ2 at *
      generalize (r3.toNat : Int) = ρ3 at *
      generalize (r4.toNat : Int) = ρ4 at *
      generalize (r5.toNat : Int) = ρ5 at *
      generalize (r6.toNat : Int) = ρ6 at *
      have HZ := hd (And.intro hα (And.intro hβ (And.intro hγ (And.intro hε (And.intro hφ (And.intro hψ (And.intro hv1 hv2)))))))
      clear hα hβ hγ hε hφ hψ hv1 hv2 HV
      go_wp2_with fail
      go_quiet (first
        | (go_at_call 51; exact Calls.quiet_of_same (C1 _).out)
        | (go_at_call 50; first | with_reducible exact Calls.quiet_of_same (T1 _).out | with_reducible exact Calls.quiet_of_same (T2 _).out | with_reducible exact Calls.quiet_of_same (T3 _).out))
      clear T1 T2 T3 C1
      go_wp2_with fail
      refine (T4 _).out.mono ?_
      rintro e w2 ⟨rfl, rfl⟩
      go_wp2_with fail
      refine (T5 _).out.mono ?_
      rintro e w2 ⟨rfl, rfl⟩
      go_wp2_with fail
      refine (T6 _).out.mono ?_
      rintro e w2 ⟨rfl, rfl⟩
      go_wp2_with fail
      refine (C2 _).out.mono ?_
      rintro e w2 ⟨rfl, rfl⟩
      clear T4 T5 T6 C2
      go_wp2_with fail
      go_roundw
      case rel =>
        obtain ⟨g1, g2, g3, g4, g5, g6, g7, g8⟩ := HZ.out
        refine ⟨k + 1, by omega, by go_num, ?_, ?_, ?_, ?_, ?_, ?_, ?_, ?_, m + nq, by rw [HW.out, World.drewN_drewN]⟩
        all_goals rw [HQ.out]
        all_goals (first | rw [← g8] | rw [← g7] | rw [← g1] | rw [← g2] | rw [← g3] | rw [← g4] | rw [← g5] | rw [← g6])
      case measure => simp [intOf]; omega
    · have hk64 : k = 64 := by omega
      subst hk64
      rw [show ((64 : Nat) : Int) = 64 from rfl]
      generalize Sha.times K W r 64 = q at HT
      have H3 : Hid (Row wr b 70 (kn (Sha.part8 r q 0) K p s)) := H2.out
      have K3 : Hid (Kp (fun k => k = b) w wr) := by
        show Kp _ w wr
        rw [HW.out]
        exact kpB (below_drewN B1.out m) _
      have QI : Hid (∀ k, k < 8 → (#[Value.int .u32 (q.a.toNat : Int), .int .u32 (q.b.toNat : Int), .int .u32 (q.c.toNat : Int), .int .u32 (q.d.toNat : Int), .int .u32 (q.e.toNat : Int), .int .u32 (q.f.toNat : Int), .int .u32 (q.g.toNat : Int), .int .u32 (q.h.toNat : Int)] : Array Value)[k]? = some (.int .u32 ((Sha.at_ q.list k).toNat : Int))) := fun k hk => by
        match k, hk with
        | 0, _ | 1, _ | 2, _ | 3, _ | 4, _ | 5, _ | 6, _ | 7, _ => rfl
      generalize (q.a.toNat : Int) = α at *
      generalize (q.b.toNat : Int) = β at *
      generalize (q.c.toNat : Int) = γ at *
      generalize (q.d.toNat : Int) = δ at *
      generalize (q.e.toNat : Int) = ε at *
      generalize (q.f.toNat : Int) = φ at *
      generalize (q.g.toNat : Int) = ψ at *
      generalize (q.h.toNat : Int) = η at *
      clear H2 HW
      go_wp2_with fail
      go_loopw [116] (fun i wr => ∃ k : Nat, k ≤ 8 ∧ i = .int .i64 k ∧ Row wr b 70 (kn (Sha.part8 r q k) K p s) ∧ Kp (fun k => k = b) w wr) (fun i _ => 8 - (intOf i).toNat)
      case atStart => exact ⟨0, Nat.zero_le _, rfl, H3.out, K3.out⟩
      case round =>
        clear H3 K3
        obtain ⟨k, hk, rfl, hr, hkp⟩ := hrel
        have HR := hd hr
        have HKP := hd hkp
        clear hr hkp
        by_cases hlt : k < 8
        · have hlt' : (k : Int) < 8 := by omega
          have i2 := run_index_in (P := Tryd.prog) 62 61 8 _ k _ und42 Tryd.sizeOf61 Tryd.isAgg61 hlt (QI.out k hlt)
          have c1 := HR.out.get (kn_word (Sha.part8 r q k) K p s k hlt)
          rw [part8_at r q k hlt] at c1
          have f1 := HR.out.frozen (1 + k)
          have a1 := badd (Sha.at_ r.list k) (Sha.at_ q.list k)
          have HE := hd (part8_set r q K p s k hlt)
          generalize Sha.at_ r.list k + Sha.at_ q.list k = z at *
          generalize ((Sha.at_ r.list k).toNat : Int) = ξ at *
          generalize ((Sha.at_ q.list k).toNat : Int) = υ at *
          generalize hz : (z.toNat : Int) = ζ at *
          clear hz
          go_wp2_with fail
          go_region
          go_wp2_with fail
          go_roundw
          case rel => exact ⟨k + 1, by omega, by go_num, by rw [← HE.out]; exact (HR.out.drewN _).set _ _, (HKP.out.trans (kpB (below_drewN (Below.refl _ _) _) _)).setCell _ _ (fun _ => rfl)⟩
          case measure => simp [intOf]; omega
        · have hk8 : k = 8 := by omega
          subst hk8
          have HE : Hid (Sha.part8 r q 8 = Sha.sum r q) := rfl
          have HF := hd (HT.out.trans HE.out.symm)
          clear HE
          generalize Sha.part8 r q 8 = z at *
          go_wp2_with fail
          go_end0
          exact ⟨rfl, by rw [HF.out]; exact HR.out, HKP.out⟩
end Go.Proofs.YteefpbeglmnilaaDoor
