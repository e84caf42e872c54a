/- How a block is tied in, as the document's answer does it. -/
import Derived.Test.YteefpbeglmnilaaDoorRg
namespace Go.Proofs.YteefpbeglmnilaaDoor
open Go.RowKit
set_option linter.unusedVariables false

/-- The rows of tie. -/
structure TiW (w wr : World) (r : Sha.R) (K W : List (BitVec 32)) : Prop where
  bel : Below w.heap.size w wr
  s : Row wr w.heap.size 62 (ws r.list)
  sw : Row wr (w.heap.size + 1) 64 (ws W)
  sk : Row wr (w.heap.size + 2) 64 (ws K)
  res : Row wr (w.heap.size + 3) 62 (ws (List.replicate 8 0#32))

theorem TiW.drewN {w wr : World} {r : Sha.R} {K W : List (BitVec 32)} (h : TiW w wr r K W) (n : Nat) : TiW w (wr.drewN n) r K W := ⟨below_drewN h.bel n, h.s.drewN n, h.sw.drewN n, h.sk.drewN n, h.res.drewN n⟩

set_option maxRecDepth 100000 in
set_option maxHeartbeats 1600000 in
theorem rtie_ok (w : World) (r : Sha.R) (K W : List (BitVec 32)) (hK : K.length = 64) (hW : W.length = 64) :
    Calls Tryd.prog 37 #[.agg (ws r.list).toArray, .agg (ws W).toArray, .agg (ws K).toArray] w fun e w' => e = .returned (.agg (ws (Sha.sum r (Sha.times K W r 64)).list).toArray) ∧ Below w.heap.size w w' := by
  go_enter Tryd.func37, Tryd.ntmps37
  go_wp2_with fail
  rw [show w.heap.size + 1 + 1 + 1 = w.heap.size + 3 from rfl, show w.heap.size + 1 + 1 = w.heap.size + 2 from rfl]
  generalize hw0 : World.alloc (World.alloc (World.alloc (World.alloc w _) _) _) _ = w0
  have S0 : Hid (TiW w w0 r K W) := by
    have a1 := Row.new w 62 (ws r.list)
    have a2 := Row.new (World.alloc w (.cells (ws r.list).toArray 62)) 64 (ws W)
    have a3 := Row.new (World.alloc (World.alloc w (.cells (ws r.list).toArray 62)) (.cells (ws W).toArray 64)) 64 (ws K)
    have a4 := Row.new (World.alloc (World.alloc (World.alloc w (.cells (ws r.list).toArray 62)) (.cells (ws W).toArray 64)) (.cells (ws K).toArray 64)) 62 (ws (List.replicate 8 0#32))
    have b : Below w.heap.size w w0 := by
      subst hw0
      exact ((((Below.refl _ _).alloc (Nat.le_refl _) _).alloc (by simp) _).alloc (by simp; omega) _).alloc (by simp; omega) _
    simp only [World.size_alloc] at a2 a3 a4
    refine ⟨b, ?_, ?_, ?_, ?_⟩
    all_goals subst hw0
    · exact ((a1.alloc _).alloc _).alloc _
    · exact (a2.alloc _).alloc _
    · exact a3.alloc _
    · exact a4
  clear hw0
  have c0 : w0.cell? ⟨w.heap.size, 0, none⟩ = some (.int .u32 (r.a.toNat : Int)) := S0.out.s.word 0 (by show 0 < 8; decide)
  have c1 : w0.cell? ⟨w.heap.size, 1, none⟩ = some (.int .u32 (r.b.toNat : Int)) := S0.out.s.word 1 (by show 1 < 8; decide)
  have c2 : w0.cell? ⟨w.heap.size, 2, none⟩ = some (.int .u32 (r.c.toNat : Int)) := S0.out.s.word 2 (by show 2 < 8; decide)
  have c3 : w0.cell? ⟨w.heap.size, 3, none⟩ = some (.int .u32 (r.d.toNat : Int)) := S0.out.s.word 3 (by show 3 < 8; decide)
  have c4 : w0.cell? ⟨w.heap.size, 4, none⟩ = some (.int .u32 (r.e.toNat : Int)) := S0.out.s.word 4 (by show 4 < 8; decide)
  have c5 : w0.cell? ⟨w.heap.size, 5, none⟩ = some (.int .u32 (r.f.toNat : Int)) := S0.out.s.word 5 (by show 5 < 8; decide)
  have c6 : w0.cell? ⟨w.heap.size, 6, none⟩ = some (.int .u32 (r.g.toNat : Int)) := S0.out.s.word 6 (by show 6 < 8; decide)
  have c7 : w0.cell? ⟨w.heap.size, 7, none⟩ = some (.int .u32 (r.h.toNat : Int)) := S0.out.s.word 7 (by show 7 < 8; decide)
  generalize (ws r.list).toArray = ra
  generalize (ws W).toArray = wa
  generalize (ws K).toArray = ka
  go_quiet (fail)
  clear c0 c1 c2 c3 c4 c5 c6 c7
  have S1 := hd (S0.out.drewN nq)
  clear S0
  generalize w0.drewN nq = w1 at *
  clear w0
  have HT : Hid (Sha.sum r (Sha.times K W r 64) = Sha.sum r (Sha.times K W r 64)) := rfl
  go_wp2_with fail
  go_loopw [15, 7, 8, 9, 10, 11, 12, 13, 14] (fun i a0 b0 c0 d0 e0 f0 g0 h0 wr => ∃ k : Nat, k ≤ 64 ∧ i = .int .i64 k ∧
    a0 = .int .u32 ((Sha.times K W r k).a.toNat : Int) ∧ b0 = .int .u32 ((Sha.times K W r k).b.toNat : Int) ∧ c0 = .int .u32 ((Sha.times K W r k).c.toNat : Int) ∧ d0 = .int .u32 ((Sha.times K W r k).d.toNat : Int) ∧
    e0 = .int .u32 ((Sha.times K W r k).e.toNat : Int) ∧ f0 = .int .u32 ((Sha.times K W r k).f.toNat : Int) ∧ g0 = .int .u32 ((Sha.times K W r k).g.toNat : Int) ∧ h0 = .int .u32 ((Sha.times K W r k).h.toNat : Int) ∧ ∃ m, wr = w1.drewN m) (fun i _ _ _ _ _ _ _ _ _ => 64 - (intOf i).toNat)
  case atStart => exact ⟨0, Nat.zero_le _, rfl, rfl, rfl, rfl, rfl, rfl, rfl, rfl, rfl, 0, rfl⟩
  case round =>
    obtain ⟨k, hk, rfl, rfl, rfl, rfl, rfl, rfl, rfl, rfl, rfl, m, hwr⟩ := hrel
    have H2 : Hid (TiW w wr r K W) := hwr ▸ (S1.out.drewN m)
    have HW := hd hwr
    clear hwr
    have HN : Hid (Sha.times K W r (k + 1) = Sha.once (Sha.times K W r k) (Sha.at_ K k) (Sha.at_ W k)) := rfl
    by_cases hlt : k < 64
    · have hlt' : (k : Int) < 64 := by omega
      have c1 := H2.out.sk.word k (by rw [hK]; exact hlt)
      have c2 := H2.out.sw.word k (by rw [hW]; exact hlt)
      generalize Sha.at_ W k = x at *
      generalize Sha.at_ K k = y at *
      generalize Sha.times K W r k = tt at *
      obtain ⟨a, b', c, d, e, f, g, h⟩ := tt
      have T1 : ∀ w, Hid (Calls Tryd.prog 55 #[.int .u32 (e.toNat : Int), .int .i64 6] w fun o w' => o = .returned (.int .u32 ((Sha.rr e 6).toNat : Int)) ∧ ∃ m, w' = w.drewN m) := fun w => turn_ok e 6 (by decide) (by decide) w
      have T2 : ∀ w, Hid (Calls Tryd.prog 55 #[.int .u32 (e.toNat : Int), .int .i64 11] w fun o w' => o = .returned (.int .u32 ((Sha.rr e 11).toNat : Int)) ∧ ∃ m, w' = w.drewN m) := fun w => turn_ok e 11 (by decide) (by decide) w
      have T3 : ∀ w, Hid (Calls Tryd.prog 55 #[.int .u32 (e.toNat : Int), .int .i64 25] w fun o w' => o = .returned (.int .u32 ((Sha.rr e 25).toNat : Int)) ∧ ∃ m, w' = w.drewN m) := fun w => turn_ok e 25 (by decide) (by decide) w
      have T4 : ∀ w, Hid (Calls Tryd.prog 55 #[.int .u32 (a.toNat : Int), .int .i64 2] w fun o w' => o = .returned (.int .u32 ((Sha.rr a 2).toNat : Int)) ∧ ∃ m, w' = w.drewN m) := fun w => turn_ok a 2 (by decide) (by decide) w
      have T5 : ∀ w, Hid (Calls Tryd.prog 55 #[.int .u32 (a.toNat : Int), .int .i64 13] w fun o w' => o = .returned (.int .u32 ((Sha.rr a 13).toNat : Int)) ∧ ∃ m, w' = w.drewN m) := fun w => turn_ok a 13 (by decide) (by decide) w
      have T6 : ∀ w, Hid (Calls Tryd.prog 55 #[.int .u32 (a.toNat : Int), .int .i64 22] w fun o w' => o = .returned (.int .u32 ((Sha.rr a 22).toNat : Int)) ∧ ∃ m, w' = w.drewN m) := fun w => turn_ok a 22 (by decide) (by decide) w
      have x1 := bxor (Sha.rr e 6) (Sha.rr e 11)
      have x2 := bxor (Sha.rr e 6 ^^^ Sha.rr e 11) (Sha.rr e 25)
      have x3 := bxor (Sha.rr a 2) (Sha.rr a 13)
      have x4 := bxor (Sha.rr a 2 ^^^ Sha.rr a 13) (Sha.rr a 22)
      have y1 := band e f
      have y2 := bnot e
      have y2' : bits .xor .u32 (if IntKind.u32.signed = true then -1 else IntKind.u32.max) (e.toNat : Int) = ((~~~ e).toNat : Int) := bnot e
      have y3 := band (~~~ e) g
      have y4 := bor (e &&& f) (~~~ e &&& g)
      have z1 := band a b'
      have z2 := band a c
      have z3 := band b' c
      have z4 := bor (a &&& b') (a &&& c)
      have z5 := bor ((a &&& b') ||| (a &&& c)) (b' &&& c)
      change bits .or .u32 _ _ = ((Sha.ch e f g).toNat : Int) at y4
      change bits .or .u32 _ _ = ((Sha.mj a b' c).toNat : Int) at z5
      have a1 := badd h (Sha.S1 e)
      have a2 := badd (h + Sha.S1 e) (Sha.ch e f g)
      have a3 := badd (h + Sha.S1 e + Sha.ch e f g) y
      have a4 := badd (h + Sha.S1 e + Sha.ch e f g + y) x
      have a5 := badd (Sha.S0 a) (Sha.mj a b' c)
      have a6 := badd d (h + Sha.S1 e + Sha.ch e f g + y + x)
      have a7 := badd (h + Sha.S1 e + Sha.ch e f g + y + x) (Sha.S0 a + Sha.mj a b' c)
      have HQ : Hid (Sha.times K W r (k + 1) = ⟨(h + Sha.S1 e + Sha.ch e f g + y + x) + (Sha.S0 a + Sha.mj a b' c), a, b', c, d + (h + Sha.S1 e + Sha.ch e f g + y + x), e, f, g⟩) := HN.out
      change bits .xor .u32 _ _ = ((Sha.S1 e).toNat : Int) at x2
      change bits .xor .u32 _ _ = ((Sha.S0 a).toNat : Int) at x4
      clear HN
      generalize Sha.S1 e = s1 at *
      generalize Sha.S0 a = s2 at *
      generalize Sha.ch e f g = s3 at *
      generalize Sha.mj a b' c = s4 at *
      generalize Sha.rr e 6 ^^^ Sha.rr e 11 = s5 at *
      generalize Sha.rr a 2 ^^^ Sha.rr a 13 = s6 at *
      generalize Sha.rr e 6 = r1 at *
      generalize Sha.rr e 11 = r2 at *
      generalize Sha.rr e 25 = r3 at *
      generalize Sha.rr a 2 = r4 at *
      generalize Sha.rr a 13 = r5 at *
      generalize Sha.rr a 22 = r6 at *
      generalize h + s1 + s3 + y + x = t1 at *
      generalize h + s1 + s3 + y = t2 at *
      generalize h + s1 + s3 = t3 at *
      generalize h + s1 = t4 at *
      generalize s2 + s4 = u1 at *
      generalize d + t1 = v1 at *
      generalize t1 + u1 = v2 at *
      generalize (a &&& b' ||| a &&& c) = n1 at *
      generalize (~~~ e &&& g) = n2 at *
      generalize (~~~ e) = n3 at *
      generalize (e &&& f) = n4 at *
      generalize (a &&& b') = n5 at *
      generalize (a &&& c) = n6 at *
      generalize (b' &&& c) = n7 at *
      generalize hα : (a.toNat : Int) = α at *
      generalize hβ : (b'.toNat : Int) = β at *
      generalize hγ : (c.toNat : Int) = γ at *
      generalize (d.toNat : Int) = δ at *
      generalize hε : (e.toNat : Int) = ε at *
      generalize hφ : (f.toNat : Int) = φ at *
      generalize hψ : (g.toNat : Int) = ψ at *
      generalize (h.toNat : Int) = η at *
      generalize (x.toNat : Int) = ξ at *
      generalize (y.toNat : Int) = υ at *
      generalize hv1 : (v1.toNat : Int) = ν1 at *
      generalize hv2 : (v2.toNat : Int) = ν2 at *
      generalize (u1.toNat : Int) = μ1 at *
      generalize (t1.toNat : Int) = τ1 at *
      generalize (t2.toNat : Int) = τ2 at *
      generalize (t3.toNat : Int) = τ3 at *
      generalize (t4.toNat : Int) = τ4 at *
      generalize (s1.toNat : Int) = ζ1 at *
      generalize (s2.toNat : Int) = ζ2 at *
      generalize (s3.toNat : Int) = ζ3 at *
      generalize (s4.toNat : Int) = ζ4 at *
      generalize (s5.toNat : Int) = ζ5 at *
      generalize (s6.toNat : Int) = ζ6 at *
      generalize (r1.toNat : Int) = ρ1 at *
      generalize (r2.toNat : Int) = ρ2 at *
      generalize (r3.toNat : Int) = ρ3 at *
      generalize (r4.toNat : Int) = ρ4 at *
      generalize (r5.toNat : Int) = ρ5 at *
      generalize (r6.toNat : Int) = ρ6 at *
      generalize (n1.toNat : Int) = κ1 at *
      generalize (n2.toNat : Int) = κ2 at *
      generalize (n3.toNat : Int) = κ3 at *
      generalize (n4.toNat : Int) = κ4 at *
      generalize (n5.toNat : Int) = κ5 at *
      generalize (n6.toNat : Int) = κ6 at *
      generalize (n7.toNat : Int) = κ7 at *
      have HZ := hd (And.intro hα (And.intro hβ (And.intro hγ (And.intro hε (And.intro hφ (And.intro hψ (And.intro hv1 hv2)))))))
      clear hα hβ hγ hε hφ hψ hv1 hv2
      go_wp2_with fail
      go_quiet (first
        | (go_at_call 55; first | with_reducible exact Calls.quiet_of (T1 _).out | with_reducible exact Calls.quiet_of (T2 _).out | with_reducible exact Calls.quiet_of (T3 _).out))
      clear T1 T2 T3 c1 c2
      go_wp2_with fail
      refine (T4 _).out.mono ?_
      rintro o w2 ⟨rfl, d4, rfl⟩
      go_wp2_with fail
      refine (T5 _).out.mono ?_
      rintro o w2 ⟨rfl, d5, rfl⟩
      go_wp2_with fail
      refine (T6 _).out.mono ?_
      rintro o w2 ⟨rfl, d6, rfl⟩
      clear T4 T5 T6
      go_wp2_with fail
      go_roundw
      case rel =>
        obtain ⟨g1, g2, g3, g4, g5, g6, g7, g8⟩ := HZ.out
        refine ⟨k + 1, by omega, by go_num, ?_, ?_, ?_, ?_, ?_, ?_, ?_, ?_, m + nq + d4 + d5 + d6, by rw [HW.out]; simp only [World.drewN_drewN, Nat.add_assoc]⟩
        all_goals rw [HQ.out]
        all_goals (first | rw [← g8] | rw [← g7] | rw [← g1] | rw [← g2] | rw [← g3] | rw [← g4] | rw [← g5] | rw [← g6])
      case measure => simp [intOf]; omega
    · have hk64 : k = 64 := by omega
      subst hk64
      rw [show ((64 : Nat) : Int) = 64 from rfl]
      generalize hqq : Sha.times K W r 64 = q at *
      have HQQ := hd hqq
      clear hqq
      have c0 : wr.cell? ⟨w.heap.size, 0, none⟩ = some (.int .u32 (r.a.toNat : Int)) := H2.out.s.word 0 (by show 0 < 8; decide)
      have b0 := badd r.a q.a
      have c1 : wr.cell? ⟨w.heap.size, 1, none⟩ = some (.int .u32 (r.b.toNat : Int)) := H2.out.s.word 1 (by show 1 < 8; decide)
      have b1 := badd r.b q.b
      have c2 : wr.cell? ⟨w.heap.size, 2, none⟩ = some (.int .u32 (r.c.toNat : Int)) := H2.out.s.word 2 (by show 2 < 8; decide)
      have b2 := badd r.c q.c
      have c3 : wr.cell? ⟨w.heap.size, 3, none⟩ = some (.int .u32 (r.d.toNat : Int)) := H2.out.s.word 3 (by show 3 < 8; decide)
      have b3 := badd r.d q.d
      have c4 : wr.cell? ⟨w.heap.size, 4, none⟩ = some (.int .u32 (r.e.toNat : Int)) := H2.out.s.word 4 (by show 4 < 8; decide)
      have b4 := badd r.e q.e
      have c5 : wr.cell? ⟨w.heap.size, 5, none⟩ = some (.int .u32 (r.f.toNat : Int)) := H2.out.s.word 5 (by show 5 < 8; decide)
      have b5 := badd r.f q.f
      have c6 : wr.cell? ⟨w.heap.size, 6, none⟩ = some (.int .u32 (r.g.toNat : Int)) := H2.out.s.word 6 (by show 6 < 8; decide)
      have b6 := badd r.g q.g
      have c7 : wr.cell? ⟨w.heap.size, 7, none⟩ = some (.int .u32 (r.h.toNat : Int)) := H2.out.s.word 7 (by show 7 < 8; decide)
      have b7 := badd r.h q.h
      generalize hz0 : r.a + q.a = z0 at *
      generalize (r.a.toNat : Int) = ρ0 at *
      generalize (q.a.toNat : Int) = χ0 at *
      generalize hz1 : r.b + q.b = z1 at *
      generalize (r.b.toNat : Int) = ρ1 at *
      generalize (q.b.toNat : Int) = χ1 at *
      generalize hz2 : r.c + q.c = z2 at *
      generalize (r.c.toNat : Int) = ρ2 at *
      generalize (q.c.toNat : Int) = χ2 at *
      generalize hz3 : r.d + q.d = z3 at *
      generalize (r.d.toNat : Int) = ρ3 at *
      generalize (q.d.toNat : Int) = χ3 at *
      generalize hz4 : r.e + q.e = z4 at *
      generalize (r.e.toNat : Int) = ρ4 at *
      generalize (q.e.toNat : Int) = χ4 at *
      generalize hz5 : r.f + q.f = z5 at *
      generalize (r.f.toNat : Int) = ρ5 at *
      generalize (q.f.toNat : Int) = χ5 at *
      generalize hz6 : r.g + q.g = z6 at *
      generalize (r.g.toNat : Int) = ρ6 at *
      generalize (q.g.toNat : Int) = χ6 at *
      generalize hz7 : r.h + q.h = z7 at *
      generalize (r.h.toNat : Int) = ρ7 at *
      generalize (q.h.toNat : Int) = χ7 at *
      have HE : Hid ((Sha.sum r q).list = [z0, z1, z2, z3, z4, z5, z6, z7]) := hd (by rw [← hz0, ← hz1, ← hz2, ← hz3, ← hz4, ← hz5, ← hz6, ← hz7]; rfl)
      clear hz0 hz1 hz2 hz3 hz4 hz5 hz6 hz7
      go_wp2_with (refine wpList_store_row rfl 62 _ _ rfl (w.heap.size + 3) (ws [z0, z1, z2, z3, z4, z5, z6, z7]).toArray rfl rfl 62 _ H2.out.res info42 rfl (ws_one _) ?_)
      refine bodyPost_ret (v := .agg (ws [z0, z1, z2, z3, z4, z5, z6, z7]).toArray) ?_ rfl ⟨by rw [HQQ.out, HE.out], ?_⟩
      · exact results_cell_row (P := Tryd.prog) (fn := Tryd.f37) (p := 6) (ty := 62) (by kernel_rfl) _ _ (w.heap.size + 3) 62 (ws [z0, z1, z2, z3, z4, z5, z6, z7]).toArray (0, 0) _ rfl (H2.out.res.put (us := ws [z0, z1, z2, z3, z4, z5, z6, z7])) und42' rfl info42
      · exact below_setRow H2.out.bel _ _ (Nat.le_add_right _ _)
end Go.Proofs.YteefpbeglmnilaaDoor
