/- The document's Write. -/
import Derived.Test.YtcigbfjmnhogiaaGreatDoorWt
import Derived.Test.YtcigbfjmnhogiaaGreatDoorOpm
import Derived.Test.YtcigbfjmnhogiaaGreatDoorRck
import Derived.Test.YtcigbfjmnhogiaaGreatDoorDd
namespace Go.Proofs.YtcigbfjmnhogiaaGreatDoor
open Go.RowKit
set_option linter.unusedVariables false

theorem rtextI_ok (x p : Int) (w : World) (h0 : 0 ≤ x) (h1 : x ≤ 7) (h2 : 0 ≤ p) (h3 : p < 4294967296) :
    Calls Tryz.prog 35 #[.agg #[.int .i64 x, .int .u32 p]] w fun e w' => VEnd w (.string (textOf x.toNat p.toNat)) e w' := by
  have h := rtext_ok x.toNat p.toNat w (by omega) (by omega)
  have ex : ((x.toNat : Nat) : Int) = x := by omega
  have ep : ((p.toNat : Nat) : Int) = p := by omega
  rwa [ex, ep] at h
theorem cat_R (l : List UInt8) (r : RuleD) (s : ByteArray) (x p : Int) (h : r = (s, x, p)) : ((((tB l ++ ⟨#[114, 117, 108, 101, 32]⟩) ++ s) ++ ⟨#[32]⟩) ++ textOf x.toNat p.toNat) ++ ⟨#[10]⟩ = tB (l ++ (lnR r ++ [10])) := by
  subst h
  apply ba_ext
  simp [lnR, wdR, glue, labT]
theorem cat_Q (l : List UInt8) (r : ReaderD) (s : ByteArray) (x p a b : Int) (h : r = (s, x, p, a, b)) :
    ((((((((tB l ++ ⟨#[114, 101, 97, 100, 101, 114, 32]⟩) ++ s) ++ ⟨#[32]⟩) ++ textOf x.toNat p.toNat) ++ ⟨#[32]⟩) ++ tx a) ++ ⟨#[32]⟩) ++ tx b) ++ ⟨#[10]⟩ = tB (l ++ (lnQ r ++ [10])) := by
  subst h
  apply ba_ext
  simp [lnQ, wdQ, glue, labT, tx]
/-- While the document's Write writes: the policy lies in block bx. -/
structure RS (w : World) (bx : Nat) (u v : Value) (W : World) : Prop where
  bel : Below w.heap.size w W
  pb : Bk W bx 25 #[u, v]
theorem RS.call {w W W' : World} {bx : Nat} {u v : Value} (h : RS w bx u v W) (k : Below W.heap.size W W') : RS w bx u v W' := ⟨below_below h.bel k, h.pb.keep k⟩
/-- .. and a rule lies there. -/
structure RE (w : World) (bx : Nat) (u v : Value) (g o : Nat) (s : ByteArray) (x p : Int) (W : World) : Prop where
  rs : RS w bx u v W
  c0 : W.cell? ⟨g, o, none⟩ = some (.string s)
  c1 : W.cell? ⟨g, o + 1, none⟩ = some (.int .i64 x)
  c2 : W.cell? ⟨g, o + 2, none⟩ = some (.int .u32 p)
theorem cell_keep {W W' : World} {a : Addr} {v : Value} (h : W.cell? a = some v) (k : Below W.heap.size W W') : W'.cell? a = some v := (below_cell k (World.block_lt_of_cell? W _ h)).trans h
theorem RE.call {w W W' : World} {bx : Nat} {u v : Value} {g o : Nat} {s : ByteArray} {x p : Int} (h : RE w bx u v g o s x p W) (k : Below W.heap.size W W') : RE w bx u v g o s x p W' :=
  ⟨h.rs.call k, cell_keep h.c0 k, cell_keep h.c1 k, cell_keep h.c2 k⟩
/-- .. or a copy of a reader. -/
def RF (w : World) (bx : Nat) (u v : Value) (f : Nat) (cs : Array Value) (W : World) : Prop := RS w bx u v W ∧ Bk W f 34 cs
theorem RF.call {w W W' : World} {bx : Nat} {u v : Value} {f : Nat} {cs : Array Value} (h : RF w bx u v f cs W) (k : Below W.heap.size W W') : RF w bx u v f cs W' := ⟨h.1.call k, h.2.keep k⟩

set_option maxRecDepth 100000 in
set_option maxHeartbeats 4000000 in
theorem rwrite_good {w : World} {u v : Value} {rs : List RuleD} {qs : List ReaderD} (hr : El encR 3 w u rs) (hq : El encQ 5 w v qs) (hg : GoodP (rs, qs)) (G : Glob w) :
    Calls Tryz.prog 11 #[.agg #[u, v]] w fun e w' => VEnd w (.tuple #[.string (tB (wrL (rs, qs))), .int .i64 0]) e w' := by
  obtain ⟨x0, capr, rfl⟩ := hr.form
  obtain ⟨y0, capq, rfl⟩ := hq.form
  have HG := hd G
  have HGP := hd hg
  have HOK := hd (goodP_ok hg)
  have HR := hd hr
  have HQ := hd hq
  clear hr hq hg G
  obtain ⟨n, hn⟩ : ∃ n, rs.length = n := ⟨_, rfl⟩
  obtain ⟨m, hm⟩ : ∃ m, qs.length = m := ⟨_, rfl⟩
  have HCK := hd fun w' (k : Below w.heap.size w w') => rcheck_pol (HR.out.keep k) (HQ.out.keep k)
  rw [hn] at HR HCK ⊢
  rw [hm] at HQ HCK ⊢
  have HN := hd hn
  have HM := hd hm
  have HC0 := hd (show ckI (okPol rs qs) = 0 by unfold ckI; rw [HOK.out]; rfl)
  rw [HC0.out] at HCK
  clear hn hm
  go_enter Tryz.func11, Tryz.ntmps11
  go_wp2_with fail
  have A1 := Bk.new w 25 #[Value.slice x0 n capr, Value.slice y0 m capq]
  have B1 := below1 w (Obj.cells #[Value.slice x0 n capr, Value.slice y0 m capq] 25)
  generalize w.alloc (Obj.cells #[Value.slice x0 n capr, Value.slice y0 m capq] 25) = w1 at *
  obtain ⟨bx, hbx⟩ : ∃ bx, w.heap.size = bx := ⟨_, rfl⟩
  rw [hbx] at A1 ⊢
  clear hbx
  refine (HCK.out w1 B1).mono ?_
  rintro e w2 ⟨rfl, hk⟩
  have HS := hd (⟨below_below B1 hk, A1.keep hk⟩ : RS w bx (.slice x0 n capr) (.slice y0 m capq) w2)
  clear A1 B1 hk
  go_wp2_with fail
  go_loopw [4, 5] (fun a i wr => ∃ k : Nat, k ≤ n ∧ a = .string (tB (wrL (rs.take k, []))) ∧ i = .int .i64 (k : Int) ∧ RS w bx (.slice x0 n capr) (.slice y0 m capq) wr) (fun _ i _ => n - (intOf i).toNat)
  case atStart => exact ⟨0, Nat.zero_le _, by rw [List.take_zero]; rfl, rfl, HS.out⟩
  case round =>
    obtain ⟨k, hkn, rfl, rfl, hws⟩ := hrel
    have HWS := hd hws
    clear hws HS
    have d0 := HWS.out.pb.cell 0
    have d1 := HWS.out.pb.cell 1
    simp at d0 d1
    by_cases hlt : k < n
    · have hlz : (k : Int) < (n : Int) := by omega
      have hxk : k < rs.length := by rw [HN.out]; omega
      obtain ⟨⟨s, x, p⟩, he1⟩ : ∃ r : RuleD, rs[k]'hxk = r := ⟨_, rfl⟩
      obtain ⟨g, off, hx, hcx, _, c10, c11, c12⟩ := HR.out.atR HWS.out.bel HN.out hlt he1
      subst hx
      have hgood := HGP.out.gr _ (List.getElem_mem hxk)
      rw [he1] at hgood
      obtain ⟨hg0, hg1, hg2⟩ := hgood
      have hparts := okRule_parts hg0
      simp only at hparts hg1 hg2
      have hsz := nm_size hparts.1
      have htz := text_size x.toNat p.toNat
      have HT := hd fun w => rtextI_ok x p w (by omega) (by omega) hg1 hg2
      obtain ⟨l, hl⟩ : ∃ l, wrL (rs.take k, []) = l := ⟨_, rfl⟩
      have hpl := wr_partR HGP.out k
      rw [hl] at hpl ⊢
      have hcat := cat_R l (s, x, p) s x p rfl
      have hstep : wrL (rs.take (k + 1), []) = l ++ (lnR (s, x, p) ++ [10]) := by rw [wr_stepR rs hxk, hl, he1]
      rw [← hstep] at hcat
      obtain ⟨tt, htt⟩ : ∃ tt, textOf x.toNat p.toNat = tt := ⟨_, rfl⟩
      rw [htt] at HT hcat htz
      have hl0 := tB_size l
      obtain ⟨s0, hs0⟩ : ∃ s0, tB l = s0 := ⟨_, rfl⟩
      rw [hs0] at hcat hl0 ⊢
      have q5 : (⟨#[114, 117, 108, 101, 32]⟩ : ByteArray).size = 5 := rfl
      have q1 : (⟨#[32]⟩ : ByteArray).size = 1 := rfl
      have q0 : (⟨#[10]⟩ : ByteArray).size = 1 := rfl
      obtain ⟨s1, hs1⟩ : ∃ s1, s0 ++ ⟨#[114, 117, 108, 101, 32]⟩ = s1 := ⟨_, rfl⟩
      have zs1 : s1.size = s0.size + (⟨#[114, 117, 108, 101, 32]⟩ : ByteArray).size := by rw [← hs1, ByteArray.size_append]
      have hadd1 : ∀ w, (Op.stringOp .add s0 ⟨#[114, 117, 108, 101, 32]⟩).run Tryz.prog w = .ok (.string s1) w := fun w => by rw [run_string_add_sum w _ _ (by omega), hs1]
      obtain ⟨s2, hs2⟩ : ∃ s2, s1 ++ s = s2 := ⟨_, rfl⟩
      have zs2 : s2.size = s1.size + s.size := by rw [← hs2, ByteArray.size_append]
      have hadd2 : ∀ w, (Op.stringOp .add s1 s).run Tryz.prog w = .ok (.string s2) w := fun w => by rw [run_string_add_sum w _ _ (by omega), hs2]
      obtain ⟨s3, hs3⟩ : ∃ s3, s2 ++ ⟨#[32]⟩ = s3 := ⟨_, rfl⟩
      have zs3 : s3.size = s2.size + (⟨#[32]⟩ : ByteArray).size := by rw [← hs3, ByteArray.size_append]
      have hadd3 : ∀ w, (Op.stringOp .add s2 ⟨#[32]⟩).run Tryz.prog w = .ok (.string s3) w := fun w => by rw [run_string_add_sum w _ _ (by omega), hs3]
      obtain ⟨s4, hs4⟩ : ∃ s4, s3 ++ tt = s4 := ⟨_, rfl⟩
      have zs4 : s4.size = s3.size + tt.size := by rw [← hs4, ByteArray.size_append]
      have hadd4 : ∀ w, (Op.stringOp .add s3 tt).run Tryz.prog w = .ok (.string s4) w := fun w => by rw [run_string_add_sum w _ _ (by omega), hs4]
      obtain ⟨s5, hs5⟩ : ∃ s5, s4 ++ ⟨#[10]⟩ = s5 := ⟨_, rfl⟩
      have zs5 : s5.size = s4.size + (⟨#[10]⟩ : ByteArray).size := by rw [← hs5, ByteArray.size_append]
      have hadd5 : ∀ w, (Op.stringOp .add s4 ⟨#[10]⟩).run Tryz.prog w = .ok (.string s5) w := fun w => by rw [run_string_add_sum w _ _ (by omega), hs5]
      rw [hs1, hs2, hs3, hs4, hs5] at hcat
      have HST := hd hcat
      have HMS := hd (show n - (intOf (.int .i64 ((k : Int) + 1))).toNat < n - (intOf (.int .i64 (k : Int))).toNat by simp only [intOf]; omega)
      clear hl hcat hstep hpl hl0 hs0 hsz htz htt hparts hg0 hg1 hg2 he1 q5 q1 q0 hs1 zs1 hs2 zs2 hs3 zs3 hs4 zs4 hs5 zs5
      have HRE := hd (⟨HWS.out, c10, c11, c12⟩ : RE w bx (.slice (some ⟨g, off, none⟩) n capr) (.slice y0 m capq) g (off + k * 3) s x p wr)
      go_wp2_with fail
      clear HWS d0 d1 c10 c11 c12
      refine wp_region_each 19 (fun W W' => Below W.heap.size W W') (fun i v W => match i with | 0 => v = Value.string s0 | 1 => v = Value.string s1 | 2 => v = Value.pointer (some ⟨bx, 0, none⟩) | 3 => v = Value.slice (some ⟨g, off, none⟩) n capr | 4 => v = Value.int IntKind.i64 (k : Int) | 5 => v = Value.pointer (some ⟨g, off + k * 3, none⟩) | 6 => v = Value.pointer (some ⟨g, off + k * 3, none⟩) | 7 => v = Value.string s | 8 => v = Value.string s2 | 9 => v = Value.string s3 | 10 => v = Value.pointer (some ⟨bx, 0, none⟩) | 11 => v = Value.slice (some ⟨g, off, none⟩) n capr | 12 => v = Value.int IntKind.i64 (k : Int) | 13 => v = Value.pointer (some ⟨g, off + k * 3, none⟩) | 14 => v = Value.pointer (some ⟨g, off + k * 3 + 1, none⟩) | 15 => v = Value.agg #[Value.int IntKind.i64 x, Value.int IntKind.u32 p] | 16 => v = Value.string tt | 17 => v = Value.string s4 | 18 => v = Value.string s5 | _ => True) (fun _ W => RE w bx (.slice (some ⟨g, off, none⟩) n capr) (.slice y0 m capq) g (off + k * 3) s x p W) (by kernel_rfl) (by kernel_rfl) (fun j v W W' hE h => by
          match j with
          | 0 => exact h
          | 1 => exact h
          | 2 => exact h
          | 3 => exact h
          | 4 => exact h
          | 5 => exact h
          | 6 => exact h
          | 7 => exact h
          | 8 => exact h
          | 9 => exact h
          | 10 => exact h
          | 11 => exact h
          | 12 => exact h
          | 13 => exact h
          | 14 => exact h
          | 15 => exact h
          | 16 => exact h
          | 17 => exact h
          | 18 => exact h
          | _ + 19 => trivial) (HRE.out.call (Below.refl _ _).drew) ?_ ?_
      · simp only [List.take_succ_cons, List.take_zero]
        refine Each.cons (fun vs W hl => ?_) ?_
        · apply with19 hl
          clear hl vs
          intro v0 v1 v2 v3 v4 v5 v6 v7 v8 v9 v10 v11 v12 v13 v14 v15 v16 v17 v18 hg hd K hK
          clear hd
          rw [if_pos (by kernel_rfl)]
          simp only [puts, Act.put, List.setIfInBounds_toArray, List.set_cons_zero, List.set_cons_succ] at hK ⊢
          go_simp
          exact hK _ _ (Below.refl _ _) rfl hg
        refine Each.cons (fun vs W hl => ?_) ?_
        · apply with19 hl
          clear hl vs
          intro v0 v1 v2 v3 v4 v5 v6 v7 v8 v9 v10 v11 v12 v13 v14 v15 v16 v17 v18 hg hd K hK
          have d0 : v0 = Value.string s0 := hd 0 v0 (by kernel_rfl) rfl
          subst d0
          clear hd
          rw [if_pos (by kernel_rfl)]
          simp only [puts, Act.put, List.setIfInBounds_toArray, List.set_cons_zero, List.set_cons_succ] at hK ⊢
          go_simp
          exact hK _ _ (Below.refl _ _) rfl hg
        refine Each.cons (fun vs W hl => ?_) ?_
        · apply with19 hl
          clear hl vs
          intro v0 v1 v2 v3 v4 v5 v6 v7 v8 v9 v10 v11 v12 v13 v14 v15 v16 v17 v18 hg hd K hK
          clear hd
          rw [if_pos (by kernel_rfl)]
          simp only [puts, Act.put, List.setIfInBounds_toArray, List.set_cons_zero, List.set_cons_succ] at hK ⊢
          go_simp
          exact hK _ _ (Below.refl _ _) rfl hg
        refine Each.cons (fun vs W hl => ?_) ?_
        · apply with19 hl
          clear hl vs
          intro v0 v1 v2 v3 v4 v5 v6 v7 v8 v9 v10 v11 v12 v13 v14 v15 v16 v17 v18 hg hd K hK
          have d2 : v2 = Value.pointer (some ⟨bx, 0, none⟩) := hd 2 v2 (by kernel_rfl) rfl
          subst d2
          clear hd
          rw [if_pos (by kernel_rfl)]
          simp only [puts, Act.put, List.setIfInBounds_toArray, List.set_cons_zero, List.set_cons_succ] at hK ⊢
          have c0 := hg.rs.pb.cell 0
          simp at c0
          go_simp
          exact hK _ _ (Below.refl _ _) rfl hg
        refine Each.cons (fun vs W hl => ?_) ?_
        · apply with19 hl
          clear hl vs
          intro v0 v1 v2 v3 v4 v5 v6 v7 v8 v9 v10 v11 v12 v13 v14 v15 v16 v17 v18 hg hd K hK
          clear hd
          rw [if_pos (by kernel_rfl)]
          simp only [puts, Act.put, List.setIfInBounds_toArray, List.set_cons_zero, List.set_cons_succ] at hK ⊢
          go_simp
          exact hK _ _ (Below.refl _ _) rfl hg
        refine Each.cons (fun vs W hl => ?_) ?_
        · apply with19 hl
          clear hl vs
          intro v0 v1 v2 v3 v4 v5 v6 v7 v8 v9 v10 v11 v12 v13 v14 v15 v16 v17 v18 hg hd K hK
          have d3 : v3 = Value.slice (some ⟨g, off, none⟩) n capr := hd 3 v3 (by kernel_rfl) rfl
          subst d3
          have d4 : v4 = Value.int IntKind.i64 (k : Int) := hd 4 v4 (by kernel_rfl) rfl
          subst d4
          clear hd
          rw [if_pos (by kernel_rfl)]
          simp only [puts, Act.put, List.setIfInBounds_toArray, List.set_cons_zero, List.set_cons_succ] at hK ⊢
          go_simp
          exact hK _ _ (Below.refl _ _) rfl hg
        refine Each.cons (fun vs W hl => ?_) ?_
        · apply with19 hl
          clear hl vs
          intro v0 v1 v2 v3 v4 v5 v6 v7 v8 v9 v10 v11 v12 v13 v14 v15 v16 v17 v18 hg hd K hK
          have d5 : v5 = Value.pointer (some ⟨g, off + k * 3, none⟩) := hd 5 v5 (by kernel_rfl) rfl
          subst d5
          clear hd
          rw [if_pos (by kernel_rfl)]
          simp only [puts, Act.put, List.setIfInBounds_toArray, List.set_cons_zero, List.set_cons_succ] at hK ⊢
          go_simp
          exact hK _ _ (Below.refl _ _) rfl hg
        refine Each.cons (fun vs W hl => ?_) ?_
        · apply with19 hl
          clear hl vs
          intro v0 v1 v2 v3 v4 v5 v6 v7 v8 v9 v10 v11 v12 v13 v14 v15 v16 v17 v18 hg hd K hK
          have d6 : v6 = Value.pointer (some ⟨g, off + k * 3, none⟩) := hd 6 v6 (by kernel_rfl) rfl
          subst d6
          clear hd
          rw [if_pos (by kernel_rfl)]
          simp only [puts, Act.put, List.setIfInBounds_toArray, List.set_cons_zero, List.set_cons_succ] at hK ⊢
          have c0 := hg.c0
          go_simp
          exact hK _ _ (Below.refl _ _) rfl hg
        refine Each.cons (fun vs W hl => ?_) ?_
        · apply with19 hl
          clear hl vs
          intro v0 v1 v2 v3 v4 v5 v6 v7 v8 v9 v10 v11 v12 v13 v14 v15 v16 v17 v18 hg hd K hK
          have d1 : v1 = Value.string s1 := hd 1 v1 (by kernel_rfl) rfl
          subst d1
          have d7 : v7 = Value.string s := hd 7 v7 (by kernel_rfl) rfl
          subst d7
          clear hd
          rw [if_pos (by kernel_rfl)]
          simp only [puts, Act.put, List.setIfInBounds_toArray, List.set_cons_zero, List.set_cons_succ] at hK ⊢
          go_simp
          exact hK _ _ (Below.refl _ _) rfl hg
        refine Each.cons (fun vs W hl => ?_) ?_
        · apply with19 hl
          clear hl vs
          intro v0 v1 v2 v3 v4 v5 v6 v7 v8 v9 v10 v11 v12 v13 v14 v15 v16 v17 v18 hg hd K hK
          have d8 : v8 = Value.string s2 := hd 8 v8 (by kernel_rfl) rfl
          subst d8
          clear hd
          rw [if_pos (by kernel_rfl)]
          simp only [puts, Act.put, List.setIfInBounds_toArray, List.set_cons_zero, List.set_cons_succ] at hK ⊢
          go_simp
          exact hK _ _ (Below.refl _ _) rfl hg
        refine Each.cons (fun vs W hl => ?_) ?_
        · apply with19 hl
          clear hl vs
          intro v0 v1 v2 v3 v4 v5 v6 v7 v8 v9 v10 v11 v12 v13 v14 v15 v16 v17 v18 hg hd K hK
          clear hd
          rw [if_pos (by kernel_rfl)]
          simp only [puts, Act.put, List.setIfInBounds_toArray, List.set_cons_zero, List.set_cons_succ] at hK ⊢
          go_simp
          exact hK _ _ (Below.refl _ _) rfl hg
        refine Each.cons (fun vs W hl => ?_) ?_
        · apply with19 hl
          clear hl vs
          intro v0 v1 v2 v3 v4 v5 v6 v7 v8 v9 v10 v11 v12 v13 v14 v15 v16 v17 v18 hg hd K hK
          have d10 : v10 = Value.pointer (some ⟨bx, 0, none⟩) := hd 10 v10 (by kernel_rfl) rfl
          subst d10
          clear hd
          rw [if_pos (by kernel_rfl)]
          simp only [puts, Act.put, List.setIfInBounds_toArray, List.set_cons_zero, List.set_cons_succ] at hK ⊢
          have c0 := hg.rs.pb.cell 0
          simp at c0
          go_simp
          exact hK _ _ (Below.refl _ _) rfl hg
        refine Each.cons (fun vs W hl => ?_) ?_
        · apply with19 hl
          clear hl vs
          intro v0 v1 v2 v3 v4 v5 v6 v7 v8 v9 v10 v11 v12 v13 v14 v15 v16 v17 v18 hg hd K hK
          clear hd
          rw [if_pos (by kernel_rfl)]
          simp only [puts, Act.put, List.setIfInBounds_toArray, List.set_cons_zero, List.set_cons_succ] at hK ⊢
          go_simp
          exact hK _ _ (Below.refl _ _) rfl hg
        refine Each.cons (fun vs W hl => ?_) ?_
        · apply with19 hl
          clear hl vs
          intro v0 v1 v2 v3 v4 v5 v6 v7 v8 v9 v10 v11 v12 v13 v14 v15 v16 v17 v18 hg hd K hK
          have d11 : v11 = Value.slice (some ⟨g, off, none⟩) n capr := hd 11 v11 (by kernel_rfl) rfl
          subst d11
          have d12 : v12 = Value.int IntKind.i64 (k : Int) := hd 12 v12 (by kernel_rfl) rfl
          subst d12
          clear hd
          rw [if_pos (by kernel_rfl)]
          simp only [puts, Act.put, List.setIfInBounds_toArray, List.set_cons_zero, List.set_cons_succ] at hK ⊢
          go_simp
          exact hK _ _ (Below.refl _ _) rfl hg
        refine Each.cons (fun vs W hl => ?_) ?_
        · apply with19 hl
          clear hl vs
          intro v0 v1 v2 v3 v4 v5 v6 v7 v8 v9 v10 v11 v12 v13 v14 v15 v16 v17 v18 hg hd K hK
          have d13 : v13 = Value.pointer (some ⟨g, off + k * 3, none⟩) := hd 13 v13 (by kernel_rfl) rfl
          subst d13
          clear hd
          rw [if_pos (by kernel_rfl)]
          simp only [puts, Act.put, List.setIfInBounds_toArray, List.set_cons_zero, List.set_cons_succ] at hK ⊢
          go_simp
          exact hK _ _ (Below.refl _ _) rfl hg
        refine Each.cons (fun vs W hl => ?_) ?_
        · apply with19 hl
          clear hl vs
          intro v0 v1 v2 v3 v4 v5 v6 v7 v8 v9 v10 v11 v12 v13 v14 v15 v16 v17 v18 hg hd K hK
          have d14 : v14 = Value.pointer (some ⟨g, off + k * 3 + 1, none⟩) := hd 14 v14 (by kernel_rfl) rfl
          subst d14
          clear hd
          rw [if_pos (by kernel_rfl)]
          simp only [puts, Act.put, List.setIfInBounds_toArray, List.set_cons_zero, List.set_cons_succ] at hK ⊢
          have c1 := hg.c1
          have c2 := hg.c2
          go_simp
          exact hK _ _ (Below.refl _ _) rfl hg
        refine Each.cons (fun vs W hl => ?_) ?_
        · apply with19 hl
          clear hl vs
          intro v0 v1 v2 v3 v4 v5 v6 v7 v8 v9 v10 v11 v12 v13 v14 v15 v16 v17 v18 hg hd K hK
          have d15 : v15 = Value.agg #[Value.int IntKind.i64 x, Value.int IntKind.u32 p] := hd 15 v15 (by kernel_rfl) rfl
          subst d15
          clear hd
          rw [if_pos (by kernel_rfl)]
          simp only [puts, Act.put, List.setIfInBounds_toArray, List.set_cons_zero, List.set_cons_succ] at hK ⊢
          go_simp
          refine (HT.out _).mono ?_
          rintro e w' ⟨rfl, hk⟩
          exact hK _ _ hk rfl (hg.call hk)
        refine Each.cons (fun vs W hl => ?_) ?_
        · apply with19 hl
          clear hl vs
          intro v0 v1 v2 v3 v4 v5 v6 v7 v8 v9 v10 v11 v12 v13 v14 v15 v16 v17 v18 hg hd K hK
          have d9 : v9 = Value.string s3 := hd 9 v9 (by kernel_rfl) rfl
          subst d9
          have d16 : v16 = Value.string tt := hd 16 v16 (by kernel_rfl) rfl
          subst d16
          clear hd
          rw [if_pos (by kernel_rfl)]
          simp only [puts, Act.put, List.setIfInBounds_toArray, List.set_cons_zero, List.set_cons_succ] at hK ⊢
          go_simp
          exact hK _ _ (Below.refl _ _) rfl hg
        refine Each.cons (fun vs W hl => ?_) ?_
        · apply with19 hl
          clear hl vs
          intro v0 v1 v2 v3 v4 v5 v6 v7 v8 v9 v10 v11 v12 v13 v14 v15 v16 v17 v18 hg hd K hK
          have d17 : v17 = Value.string s4 := hd 17 v17 (by kernel_rfl) rfl
          subst d17
          clear hd
          rw [if_pos (by kernel_rfl)]
          simp only [puts, Act.put, List.setIfInBounds_toArray, List.set_cons_zero, List.set_cons_succ] at hK ⊢
          go_simp
          exact hK _ _ (Below.refl _ _) rfl hg
        exact Each.nil
      · intro vs W hl
        apply with19 hl
        clear hl vs
        intro v0 v1 v2 v3 v4 v5 v6 v7 v8 v9 v10 v11 v12 v13 v14 v15 v16 v17 v18 hg hall
        have d0 : v0 = Value.string s0 := hall 0 v0 rfl
        subst d0
        have d1 : v1 = Value.string s1 := hall 1 v1 rfl
        subst d1
        have d2 : v2 = Value.pointer (some ⟨bx, 0, none⟩) := hall 2 v2 rfl
        subst d2
        have d3 : v3 = Value.slice (some ⟨g, off, none⟩) n capr := hall 3 v3 rfl
        subst d3
        have d4 : v4 = Value.int IntKind.i64 (k : Int) := hall 4 v4 rfl
        subst d4
        have d5 : v5 = Value.pointer (some ⟨g, off + k * 3, none⟩) := hall 5 v5 rfl
        subst d5
        have d6 : v6 = Value.pointer (some ⟨g, off + k * 3, none⟩) := hall 6 v6 rfl
        subst d6
        have d7 : v7 = Value.string s := hall 7 v7 rfl
        subst d7
        have d8 : v8 = Value.string s2 := hall 8 v8 rfl
        subst d8
        have d9 : v9 = Value.string s3 := hall 9 v9 rfl
        subst d9
        have d10 : v10 = Value.pointer (some ⟨bx, 0, none⟩) := hall 10 v10 rfl
        subst d10
        have d11 : v11 = Value.slice (some ⟨g, off, none⟩) n capr := hall 11 v11 rfl
        subst d11
        have d12 : v12 = Value.int IntKind.i64 (k : Int) := hall 12 v12 rfl
        subst d12
        have d13 : v13 = Value.pointer (some ⟨g, off + k * 3, none⟩) := hall 13 v13 rfl
        subst d13
        have d14 : v14 = Value.pointer (some ⟨g, off + k * 3 + 1, none⟩) := hall 14 v14 rfl
        subst d14
        have d15 : v15 = Value.agg #[Value.int IntKind.i64 x, Value.int IntKind.u32 p] := hall 15 v15 rfl
        subst d15
        have d16 : v16 = Value.string tt := hall 16 v16 rfl
        subst d16
        have d17 : v17 = Value.string s4 := hall 17 v17 rfl
        subst d17
        have d18 : v18 = Value.string s5 := hall 18 v18 rfl
        subst d18
        clear hall
        simp only [puts, Act.put, List.setIfInBounds_toArray, List.set_cons_zero, List.set_cons_succ, List.take_succ_cons, List.take_zero, List.drop_succ_cons, List.drop_zero]
        have HG1 := hd hg.rs
        clear hg
        go_wp2_with fail
        go_roundw
        case rel =>
          exact ⟨k + 1, by omega, by rw [HST.out], by go_num, HG1.out⟩
        case measure => exact HMS.out
    · have hlz : ¬ (k : Int) < (n : Int) := by omega
      obtain rfl : n = k := by omega
      have HS2 := HWS
      rw [List.take_of_length_le (by rw [HN.out]; exact Nat.le_refl _)]
      obtain ⟨l, hl⟩ : ∃ l, wrL (rs, []) = l := ⟨_, rfl⟩
      rw [hl]
      have HL0 := hd hl
      clear HWS hkn hl
      go_wp2_with fail
      go_loopw [4, 6] (fun a i wr => ∃ k : Nat, k ≤ m ∧ a = .string (tB (wrL (rs, qs.take k))) ∧ i = .int .i64 (k : Int) ∧ RS w bx (.slice x0 n capr) (.slice y0 m capq) wr) (fun _ i _ => m - (intOf i).toNat)
      case atStart => exact ⟨0, Nat.zero_le _, by rw [List.take_zero, HL0.out], rfl, HS2.out⟩
      case round =>
        obtain ⟨k, hkn, rfl, rfl, hws⟩ := hrel
        have HWS := hd hws
        clear hws HS2 HL0 d0 d1
        have d0 := HWS.out.pb.cell 0
        have d1 := HWS.out.pb.cell 1
        simp at d0 d1
        by_cases hlt : k < m
        · have hlz : (k : Int) < (m : Int) := by omega
          have hxk : k < qs.length := by rw [HM.out]; omega
          obtain ⟨⟨s, x, p, a, b⟩, he1⟩ : ∃ r : ReaderD, qs[k]'hxk = r := ⟨_, rfl⟩
          obtain ⟨g, off, hx, hcx, _, c10, c11, c12, c13, c14⟩ := HQ.out.atQ HWS.out.bel HM.out hlt he1
          subst hx
          have hgood := HGP.out.gq _ (List.getElem_mem hxk)
          rw [he1] at hgood
          obtain ⟨hg0, hg1, hg2⟩ := hgood
          have hparts := okReader_parts hg0
          simp only at hparts hg1 hg2
          have hsz := nm_size hparts.1
          have htz := text_size x.toNat p.toNat
          have HT := hd fun w => rtextI_ok x p w (by omega) (by omega) hg1 hg2
          obtain ⟨l, hl⟩ : ∃ l, wrL (rs, qs.take k) = l := ⟨_, rfl⟩
          have hpl := wr_partQ HGP.out k
          rw [hl] at hpl ⊢
          have hcat := cat_Q l (s, x, p, a, b) s x p a b rfl
          have hstep : wrL (rs, qs.take (k + 1)) = l ++ (lnQ (s, x, p, a, b) ++ [10]) := by rw [wr_stepQ rs qs hxk, hl, he1]
          rw [← hstep] at hcat
          obtain ⟨tt, htt⟩ : ∃ tt, textOf x.toNat p.toNat = tt := ⟨_, rfl⟩
          rw [htt] at HT hcat htz
          have HIA := hd fun w (hg : Glob w) => itoa_ok a w (by omega) (by omega) hg
          have HIB := hd fun w (hg : Glob w) => itoa_ok b w (by omega) (by omega) hg
          have haz : (tx a).size ≤ 7 := itoa_len a (by omega) (by omega)
          have hbz : (tx b).size ≤ 7 := itoa_len b (by omega) (by omega)
          obtain ⟨ta, hta⟩ : ∃ ta, tx a = ta := ⟨_, rfl⟩
          obtain ⟨tb, htb⟩ : ∃ tb, tx b = tb := ⟨_, rfl⟩
          rw [hta] at HIA haz hcat
          rw [htb] at HIB hbz hcat
          have hl0 := tB_size l
          obtain ⟨s0, hs0⟩ : ∃ s0, tB l = s0 := ⟨_, rfl⟩
          rw [hs0] at hcat hl0 ⊢
          have q5 : (⟨#[114, 101, 97, 100, 101, 114, 32]⟩ : ByteArray).size = 7 := rfl
          have q1 : (⟨#[32]⟩ : ByteArray).size = 1 := rfl
          have q0 : (⟨#[10]⟩ : ByteArray).size = 1 := rfl
          obtain ⟨s1, hs1⟩ : ∃ s1, s0 ++ ⟨#[114, 101, 97, 100, 101, 114, 32]⟩ = s1 := ⟨_, rfl⟩
          have zs1 : s1.size = s0.size + (⟨#[114, 101, 97, 100, 101, 114, 32]⟩ : ByteArray).size := by rw [← hs1, ByteArray.size_append]
          have hadd1 : ∀ w, (Op.stringOp .add s0 ⟨#[114, 101, 97, 100, 101, 114, 32]⟩).run Tryz.prog w = .ok (.string s1) w := fun w => by rw [run_string_add_sum w _ _ (by omega), hs1]
          obtain ⟨s2, hs2⟩ : ∃ s2, s1 ++ s = s2 := ⟨_, rfl⟩
          have zs2 : s2.size = s1.size + s.size := by rw [← hs2, ByteArray.size_append]
          have hadd2 : ∀ w, (Op.stringOp .add s1 s).run Tryz.prog w = .ok (.string s2) w := fun w => by rw [run_string_add_sum w _ _ (by omega), hs2]
          obtain ⟨s3, hs3⟩ : ∃ s3, s2 ++ ⟨#[32]⟩ = s3 := ⟨_, rfl⟩
          have zs3 : s3.size = s2.size + (⟨#[32]⟩ : ByteArray).size := by rw [← hs3, ByteArray.size_append]
          have hadd3 : ∀ w, (Op.stringOp .add s2 ⟨#[32]⟩).run Tryz.prog w = .ok (.string s3) w := fun w => by rw [run_string_add_sum w _ _ (by omega), hs3]
          obtain ⟨s4, hs4⟩ : ∃ s4, s3 ++ tt = s4 := ⟨_, rfl⟩
          have zs4 : s4.size = s3.size + tt.size := by rw [← hs4, ByteArray.size_append]
          have hadd4 : ∀ w, (Op.stringOp .add s3 tt).run Tryz.prog w = .ok (.string s4) w := fun w => by rw [run_string_add_sum w _ _ (by omega), hs4]
          obtain ⟨s5, hs5⟩ : ∃ s5, s4 ++ ⟨#[32]⟩ = s5 := ⟨_, rfl⟩
          have zs5 : s5.size = s4.size + (⟨#[32]⟩ : ByteArray).size := by rw [← hs5, ByteArray.size_append]
          have hadd5 : ∀ w, (Op.stringOp .add s4 ⟨#[32]⟩).run Tryz.prog w = .ok (.string s5) w := fun w => by rw [run_string_add_sum w _ _ (by omega), hs5]
          obtain ⟨s6, hs6⟩ : ∃ s6, s5 ++ ta = s6 := ⟨_, rfl⟩
          have zs6 : s6.size = s5.size + ta.size := by rw [← hs6, ByteArray.size_append]
          have hadd6 : ∀ w, (Op.stringOp .add s5 ta).run Tryz.prog w = .ok (.string s6) w := fun w => by rw [run_string_add_sum w _ _ (by omega), hs6]
          obtain ⟨s7, hs7⟩ : ∃ s7, s6 ++ ⟨#[32]⟩ = s7 := ⟨_, rfl⟩
          have zs7 : s7.size = s6.size + (⟨#[32]⟩ : ByteArray).size := by rw [← hs7, ByteArray.size_append]
          have hadd7 : ∀ w, (Op.stringOp .add s6 ⟨#[32]⟩).run Tryz.prog w = .ok (.string s7) w := fun w => by rw [run_string_add_sum w _ _ (by omega), hs7]
          obtain ⟨s8, hs8⟩ : ∃ s8, s7 ++ tb = s8 := ⟨_, rfl⟩
          have zs8 : s8.size = s7.size + tb.size := by rw [← hs8, ByteArray.size_append]
          have hadd8 : ∀ w, (Op.stringOp .add s7 tb).run Tryz.prog w = .ok (.string s8) w := fun w => by rw [run_string_add_sum w _ _ (by omega), hs8]
          obtain ⟨s9, hs9⟩ : ∃ s9, s8 ++ ⟨#[10]⟩ = s9 := ⟨_, rfl⟩
          have zs9 : s9.size = s8.size + (⟨#[10]⟩ : ByteArray).size := by rw [← hs9, ByteArray.size_append]
          have hadd9 : ∀ w, (Op.stringOp .add s8 ⟨#[10]⟩).run Tryz.prog w = .ok (.string s9) w := fun w => by rw [run_string_add_sum w _ _ (by omega), hs9]
          rw [hs1, hs2, hs3, hs4, hs5, hs6, hs7, hs8, hs9] at hcat
          have HST := hd hcat
          have HMS := hd (show m - (intOf (.int .i64 ((k : Int) + 1))).toNat < m - (intOf (.int .i64 (k : Int))).toNat by simp only [intOf]; omega)
          clear hl hcat hstep hpl hl0 hs0 hsz htz htt hparts hg0 hg1 hg2 he1 q5 q1 q0 hs1 zs1 hs2 zs2 hs3 zs3 hs4 zs4 hs5 zs5 hs6 zs6 hs7 zs7 hs8 zs8 hs9 zs9 haz hbz hta htb
          have hff : ¬ g = wr.heap.size := Nat.ne_of_lt (World.block_lt_of_cell? wr _ c10)
          have hff2 : ¬ wr.heap.size = g := fun e => hff e.symm
          have hbf : ¬ bx = wr.heap.size := Nat.ne_of_lt HWS.out.pb.lt
          have hbf2 : ¬ wr.heap.size = bx := fun e => hbf e.symm
          go_wp2_with fail
          have HF := hd (⟨HWS.out.call (below1 wr _), Bk.new wr 34 #[Value.string s, Value.int IntKind.i64 x, Value.int IntKind.u32 p, Value.int IntKind.i64 a, Value.int IntKind.i64 b]⟩ : RF w bx (.slice x0 n capr) (.slice (some ⟨g, off, none⟩) m capq) wr.heap.size #[Value.string s, Value.int IntKind.i64 x, Value.int IntKind.u32 p, Value.int IntKind.i64 a, Value.int IntKind.i64 b] _)
          clear c10 c11 c12 c13 c14 d0 d1 hff hff2 hbf hbf2 HWS
          generalize wr.alloc (Obj.cells #[Value.string s, Value.int IntKind.i64 x, Value.int IntKind.u32 p, Value.int IntKind.i64 a, Value.int IntKind.i64 b] 34) = WA at *
          obtain ⟨f, hf⟩ : ∃ f, wr.heap.size = f := ⟨_, rfl⟩
          rw [hf] at HF ⊢
          clear hf
          refine wp_region_each 21 (fun W W' => Below W.heap.size W W') (fun i v W => match i with | 0 => v = Value.string s0 | 1 => v = Value.string s1 | 2 => v = Value.pointer (some ⟨f, 0, none⟩) | 3 => v = Value.string s | 4 => v = Value.string s2 | 5 => v = Value.string s3 | 6 => v = Value.pointer (some ⟨f, 1, none⟩) | 7 => v = Value.agg #[Value.int IntKind.i64 x, Value.int IntKind.u32 p] | 8 => v = Value.string tt | 9 => v = Value.string s4 | 10 => v = Value.string s5 | 11 => v = Value.pointer (some ⟨f, 3, none⟩) | 12 => v = Value.int IntKind.i64 a | 13 => v = Value.string ta | 14 => v = Value.string s6 | 15 => v = Value.string s7 | 16 => v = Value.pointer (some ⟨f, 4, none⟩) | 17 => v = Value.int IntKind.i64 b | 18 => v = Value.string tb | 19 => v = Value.string s8 | 20 => v = Value.string s9 | _ => True) (fun _ W => RF w bx (.slice x0 n capr) (.slice (some ⟨g, off, none⟩) m capq) f #[Value.string s, Value.int IntKind.i64 x, Value.int IntKind.u32 p, Value.int IntKind.i64 a, Value.int IntKind.i64 b] W) (by kernel_rfl) (by kernel_rfl) (fun j v W W' hE h => by
              match j with
              | 0 => exact h
              | 1 => exact h
              | 2 => exact h
              | 3 => exact h
              | 4 => exact h
              | 5 => exact h
              | 6 => exact h
              | 7 => exact h
              | 8 => exact h
              | 9 => exact h
              | 10 => exact h
              | 11 => exact h
              | 12 => exact h
              | 13 => exact h
              | 14 => exact h
              | 15 => exact h
              | 16 => exact h
              | 17 => exact h
              | 18 => exact h
              | 19 => exact h
              | 20 => exact h
              | _ + 21 => trivial) (RF.call HF.out (Below.refl _ _).drew) ?_ ?_
          · simp only [List.take_succ_cons, List.take_zero]
            refine Each.cons (fun vs W hl => ?_) ?_
            · apply with21 hl
              clear hl vs
              intro v0 v1 v2 v3 v4 v5 v6 v7 v8 v9 v10 v11 v12 v13 v14 v15 v16 v17 v18 v19 v20 hg hd K hK
              clear hd
              rw [if_pos (by kernel_rfl)]
              simp only [puts, Act.put, List.setIfInBounds_toArray, List.set_cons_zero, List.set_cons_succ] at hK ⊢
              go_simp
              exact hK _ _ (Below.refl _ _) rfl hg
            refine Each.cons (fun vs W hl => ?_) ?_
            · apply with21 hl
              clear hl vs
              intro v0 v1 v2 v3 v4 v5 v6 v7 v8 v9 v10 v11 v12 v13 v14 v15 v16 v17 v18 v19 v20 hg hd K hK
              have d0 : v0 = Value.string s0 := hd 0 v0 (by kernel_rfl) rfl
              subst d0
              clear hd
              rw [if_pos (by kernel_rfl)]
              simp only [puts, Act.put, List.setIfInBounds_toArray, List.set_cons_zero, List.set_cons_succ] at hK ⊢
              go_simp
              exact hK _ _ (Below.refl _ _) rfl hg
            refine Each.cons (fun vs W hl => ?_) ?_
            · apply with21 hl
              clear hl vs
              intro v0 v1 v2 v3 v4 v5 v6 v7 v8 v9 v10 v11 v12 v13 v14 v15 v16 v17 v18 v19 v20 hg hd K hK
              clear hd
              rw [if_pos (by kernel_rfl)]
              simp only [puts, Act.put, List.setIfInBounds_toArray, List.set_cons_zero, List.set_cons_succ] at hK ⊢
              go_simp
              exact hK _ _ (Below.refl _ _) rfl hg
            refine Each.cons (fun vs W hl => ?_) ?_
            · apply with21 hl
              clear hl vs
              intro v0 v1 v2 v3 v4 v5 v6 v7 v8 v9 v10 v11 v12 v13 v14 v15 v16 v17 v18 v19 v20 hg hd K hK
              have d2 : v2 = Value.pointer (some ⟨f, 0, none⟩) := hd 2 v2 (by kernel_rfl) rfl
              subst d2
              clear hd
              rw [if_pos (by kernel_rfl)]
              simp only [puts, Act.put, List.setIfInBounds_toArray, List.set_cons_zero, List.set_cons_succ] at hK ⊢
              have c0 := hg.2.cell 0
              simp at c0
              go_simp
              exact hK _ _ (Below.refl _ _) rfl hg
            refine Each.cons (fun vs W hl => ?_) ?_
            · apply with21 hl
              clear hl vs
              intro v0 v1 v2 v3 v4 v5 v6 v7 v8 v9 v10 v11 v12 v13 v14 v15 v16 v17 v18 v19 v20 hg hd K hK
              have d1 : v1 = Value.string s1 := hd 1 v1 (by kernel_rfl) rfl
              subst d1
              have d3 : v3 = Value.string s := hd 3 v3 (by kernel_rfl) rfl
              subst d3
              clear hd
              rw [if_pos (by kernel_rfl)]
              simp only [puts, Act.put, List.setIfInBounds_toArray, List.set_cons_zero, List.set_cons_succ] at hK ⊢
              go_simp
              exact hK _ _ (Below.refl _ _) rfl hg
            refine Each.cons (fun vs W hl => ?_) ?_
            · apply with21 hl
              clear hl vs
              intro v0 v1 v2 v3 v4 v5 v6 v7 v8 v9 v10 v11 v12 v13 v14 v15 v16 v17 v18 v19 v20 hg hd K hK
              have d4 : v4 = Value.string s2 := hd 4 v4 (by kernel_rfl) rfl
              subst d4
              clear hd
              rw [if_pos (by kernel_rfl)]
              simp only [puts, Act.put, List.setIfInBounds_toArray, List.set_cons_zero, List.set_cons_succ] at hK ⊢
              go_simp
              exact hK _ _ (Below.refl _ _) rfl hg
            refine Each.cons (fun vs W hl => ?_) ?_
            · apply with21 hl
              clear hl vs
              intro v0 v1 v2 v3 v4 v5 v6 v7 v8 v9 v10 v11 v12 v13 v14 v15 v16 v17 v18 v19 v20 hg hd K hK
              clear hd
              rw [if_pos (by kernel_rfl)]
              simp only [puts, Act.put, List.setIfInBounds_toArray, List.set_cons_zero, List.set_cons_succ] at hK ⊢
              go_simp
              exact hK _ _ (Below.refl _ _) rfl hg
            refine Each.cons (fun vs W hl => ?_) ?_
            · apply with21 hl
              clear hl vs
              intro v0 v1 v2 v3 v4 v5 v6 v7 v8 v9 v10 v11 v12 v13 v14 v15 v16 v17 v18 v19 v20 hg hd K hK
              have d6 : v6 = Value.pointer (some ⟨f, 1, none⟩) := hd 6 v6 (by kernel_rfl) rfl
              subst d6
              clear hd
              rw [if_pos (by kernel_rfl)]
              simp only [puts, Act.put, List.setIfInBounds_toArray, List.set_cons_zero, List.set_cons_succ] at hK ⊢
              have c1 := hg.2.cell 1
              simp at c1
              have c2 := hg.2.cell 2
              simp at c2
              go_simp
              exact hK _ _ (Below.refl _ _) rfl hg
            refine Each.cons (fun vs W hl => ?_) ?_
            · apply with21 hl
              clear hl vs
              intro v0 v1 v2 v3 v4 v5 v6 v7 v8 v9 v10 v11 v12 v13 v14 v15 v16 v17 v18 v19 v20 hg hd K hK
              have d7 : v7 = Value.agg #[Value.int IntKind.i64 x, Value.int IntKind.u32 p] := hd 7 v7 (by kernel_rfl) rfl
              subst d7
              clear hd
              rw [if_pos (by kernel_rfl)]
              simp only [puts, Act.put, List.setIfInBounds_toArray, List.set_cons_zero, List.set_cons_succ] at hK ⊢
              go_simp
              refine (HT.out _).mono ?_
              rintro e w' ⟨rfl, hk⟩
              exact hK _ _ hk rfl (RF.call hg hk)
            refine Each.cons (fun vs W hl => ?_) ?_
            · apply with21 hl
              clear hl vs
              intro v0 v1 v2 v3 v4 v5 v6 v7 v8 v9 v10 v11 v12 v13 v14 v15 v16 v17 v18 v19 v20 hg hd K hK
              have d5 : v5 = Value.string s3 := hd 5 v5 (by kernel_rfl) rfl
              subst d5
              have d8 : v8 = Value.string tt := hd 8 v8 (by kernel_rfl) rfl
              subst d8
              clear hd
              rw [if_pos (by kernel_rfl)]
              simp only [puts, Act.put, List.setIfInBounds_toArray, List.set_cons_zero, List.set_cons_succ] at hK ⊢
              go_simp
              exact hK _ _ (Below.refl _ _) rfl hg
            refine Each.cons (fun vs W hl => ?_) ?_
            · apply with21 hl
              clear hl vs
              intro v0 v1 v2 v3 v4 v5 v6 v7 v8 v9 v10 v11 v12 v13 v14 v15 v16 v17 v18 v19 v20 hg hd K hK
              have d9 : v9 = Value.string s4 := hd 9 v9 (by kernel_rfl) rfl
              subst d9
              clear hd
              rw [if_pos (by kernel_rfl)]
              simp only [puts, Act.put, List.setIfInBounds_toArray, List.set_cons_zero, List.set_cons_succ] at hK ⊢
              go_simp
              exact hK _ _ (Below.refl _ _) rfl hg
            refine Each.cons (fun vs W hl => ?_) ?_
            · apply with21 hl
              clear hl vs
              intro v0 v1 v2 v3 v4 v5 v6 v7 v8 v9 v10 v11 v12 v13 v14 v15 v16 v17 v18 v19 v20 hg hd K hK
              clear hd
              rw [if_pos (by kernel_rfl)]
              simp only [puts, Act.put, List.setIfInBounds_toArray, List.set_cons_zero, List.set_cons_succ] at hK ⊢
              go_simp
              exact hK _ _ (Below.refl _ _) rfl hg
            refine Each.cons (fun vs W hl => ?_) ?_
            · apply with21 hl
              clear hl vs
              intro v0 v1 v2 v3 v4 v5 v6 v7 v8 v9 v10 v11 v12 v13 v14 v15 v16 v17 v18 v19 v20 hg hd K hK
              have d11 : v11 = Value.pointer (some ⟨f, 3, none⟩) := hd 11 v11 (by kernel_rfl) rfl
              subst d11
              clear hd
              rw [if_pos (by kernel_rfl)]
              simp only [puts, Act.put, List.setIfInBounds_toArray, List.set_cons_zero, List.set_cons_succ] at hK ⊢
              have c3 := hg.2.cell 3
              simp at c3
              go_simp
              exact hK _ _ (Below.refl _ _) rfl hg
            refine Each.cons (fun vs W hl => ?_) ?_
            · apply with21 hl
              clear hl vs
              intro v0 v1 v2 v3 v4 v5 v6 v7 v8 v9 v10 v11 v12 v13 v14 v15 v16 v17 v18 v19 v20 hg hd K hK
              have d12 : v12 = Value.int IntKind.i64 a := hd 12 v12 (by kernel_rfl) rfl
              subst d12
              clear hd
              rw [if_pos (by kernel_rfl)]
              simp only [puts, Act.put, List.setIfInBounds_toArray, List.set_cons_zero, List.set_cons_succ] at hK ⊢
              go_simp
              refine (HIA.out _ (HG.out.keep hg.1.bel)).mono ?_
              rintro e w' ⟨rfl, hk⟩
              exact hK _ _ hk rfl (RF.call hg hk)
            refine Each.cons (fun vs W hl => ?_) ?_
            · apply with21 hl
              clear hl vs
              intro v0 v1 v2 v3 v4 v5 v6 v7 v8 v9 v10 v11 v12 v13 v14 v15 v16 v17 v18 v19 v20 hg hd K hK
              have d10 : v10 = Value.string s5 := hd 10 v10 (by kernel_rfl) rfl
              subst d10
              have d13 : v13 = Value.string ta := hd 13 v13 (by kernel_rfl) rfl
              subst d13
              clear hd
              rw [if_pos (by kernel_rfl)]
              simp only [puts, Act.put, List.setIfInBounds_toArray, List.set_cons_zero, List.set_cons_succ] at hK ⊢
              go_simp
              exact hK _ _ (Below.refl _ _) rfl hg
            refine Each.cons (fun vs W hl => ?_) ?_
            · apply with21 hl
              clear hl vs
              intro v0 v1 v2 v3 v4 v5 v6 v7 v8 v9 v10 v11 v12 v13 v14 v15 v16 v17 v18 v19 v20 hg hd K hK
              have d14 : v14 = Value.string s6 := hd 14 v14 (by kernel_rfl) rfl
              subst d14
              clear hd
              rw [if_pos (by kernel_rfl)]
              simp only [puts, Act.put, List.setIfInBounds_toArray, List.set_cons_zero, List.set_cons_succ] at hK ⊢
              go_simp
              exact hK _ _ (Below.refl _ _) rfl hg
            refine Each.cons (fun vs W hl => ?_) ?_
            · apply with21 hl
              clear hl vs
              intro v0 v1 v2 v3 v4 v5 v6 v7 v8 v9 v10 v11 v12 v13 v14 v15 v16 v17 v18 v19 v20 hg hd K hK
              clear hd
              rw [if_pos (by kernel_rfl)]
              simp only [puts, Act.put, List.setIfInBounds_toArray, List.set_cons_zero, List.set_cons_succ] at hK ⊢
              go_simp
              exact hK _ _ (Below.refl _ _) rfl hg
            refine Each.cons (fun vs W hl => ?_) ?_
            · apply with21 hl
              clear hl vs
              intro v0 v1 v2 v3 v4 v5 v6 v7 v8 v9 v10 v11 v12 v13 v14 v15 v16 v17 v18 v19 v20 hg hd K hK
              have d16 : v16 = Value.pointer (some ⟨f, 4, none⟩) := hd 16 v16 (by kernel_rfl) rfl
              subst d16
              clear hd
              rw [if_pos (by kernel_rfl)]
              simp only [puts, Act.put, List.setIfInBounds_toArray, List.set_cons_zero, List.set_cons_succ] at hK ⊢
              have c4 := hg.2.cell 4
              simp at c4
              go_simp
              exact hK _ _ (Below.refl _ _) rfl hg
            refine Each.cons (fun vs W hl => ?_) ?_
            · apply with21 hl
              clear hl vs
              intro v0 v1 v2 v3 v4 v5 v6 v7 v8 v9 v10 v11 v12 v13 v14 v15 v16 v17 v18 v19 v20 hg hd K hK
              have d17 : v17 = Value.int IntKind.i64 b := hd 17 v17 (by kernel_rfl) rfl
              subst d17
              clear hd
              rw [if_pos (by kernel_rfl)]
              simp only [puts, Act.put, List.setIfInBounds_toArray, List.set_cons_zero, List.set_cons_succ] at hK ⊢
              go_simp
              refine (HIB.out _ (HG.out.keep hg.1.bel)).mono ?_
              rintro e w' ⟨rfl, hk⟩
              exact hK _ _ hk rfl (RF.call hg hk)
            refine Each.cons (fun vs W hl => ?_) ?_
            · apply with21 hl
              clear hl vs
              intro v0 v1 v2 v3 v4 v5 v6 v7 v8 v9 v10 v11 v12 v13 v14 v15 v16 v17 v18 v19 v20 hg hd K hK
              have d15 : v15 = Value.string s7 := hd 15 v15 (by kernel_rfl) rfl
              subst d15
              have d18 : v18 = Value.string tb := hd 18 v18 (by kernel_rfl) rfl
              subst d18
              clear hd
              rw [if_pos (by kernel_rfl)]
              simp only [puts, Act.put, List.setIfInBounds_toArray, List.set_cons_zero, List.set_cons_succ] at hK ⊢
              go_simp
              exact hK _ _ (Below.refl _ _) rfl hg
            refine Each.cons (fun vs W hl => ?_) ?_
            · apply with21 hl
              clear hl vs
              intro v0 v1 v2 v3 v4 v5 v6 v7 v8 v9 v10 v11 v12 v13 v14 v15 v16 v17 v18 v19 v20 hg hd K hK
              have d19 : v19 = Value.string s8 := hd 19 v19 (by kernel_rfl) rfl
              subst d19
              clear hd
              rw [if_pos (by kernel_rfl)]
              simp only [puts, Act.put, List.setIfInBounds_toArray, List.set_cons_zero, List.set_cons_succ] at hK ⊢
              go_simp
              exact hK _ _ (Below.refl _ _) rfl hg
            exact Each.nil
          · intro vs W hl
            apply with21 hl
            clear hl vs
            intro v0 v1 v2 v3 v4 v5 v6 v7 v8 v9 v10 v11 v12 v13 v14 v15 v16 v17 v18 v19 v20 hg hall
            have d0 : v0 = Value.string s0 := hall 0 v0 rfl
            subst d0
            have d1 : v1 = Value.string s1 := hall 1 v1 rfl
            subst d1
            have d2 : v2 = Value.pointer (some ⟨f, 0, none⟩) := hall 2 v2 rfl
            subst d2
            have d3 : v3 = Value.string s := hall 3 v3 rfl
            subst d3
            have d4 : v4 = Value.string s2 := hall 4 v4 rfl
            subst d4
            have d5 : v5 = Value.string s3 := hall 5 v5 rfl
            subst d5
            have d6 : v6 = Value.pointer (some ⟨f, 1, none⟩) := hall 6 v6 rfl
            subst d6
            have d7 : v7 = Value.agg #[Value.int IntKind.i64 x, Value.int IntKind.u32 p] := hall 7 v7 rfl
            subst d7
            have d8 : v8 = Value.string tt := hall 8 v8 rfl
            subst d8
            have d9 : v9 = Value.string s4 := hall 9 v9 rfl
            subst d9
            have d10 : v10 = Value.string s5 := hall 10 v10 rfl
            subst d10
            have d11 : v11 = Value.pointer (some ⟨f, 3, none⟩) := hall 11 v11 rfl
            subst d11
            have d12 : v12 = Value.int IntKind.i64 a := hall 12 v12 rfl
            subst d12
            have d13 : v13 = Value.string ta := hall 13 v13 rfl
            subst d13
            have d14 : v14 = Value.string s6 := hall 14 v14 rfl
            subst d14
            have d15 : v15 = Value.string s7 := hall 15 v15 rfl
            subst d15
            have d16 : v16 = Value.pointer (some ⟨f, 4, none⟩) := hall 16 v16 rfl
            subst d16
            have d17 : v17 = Value.int IntKind.i64 b := hall 17 v17 rfl
            subst d17
            have d18 : v18 = Value.string tb := hall 18 v18 rfl
            subst d18
            have d19 : v19 = Value.string s8 := hall 19 v19 rfl
            subst d19
            have d20 : v20 = Value.string s9 := hall 20 v20 rfl
            subst d20
            clear hall
            simp only [puts, Act.put, List.setIfInBounds_toArray, List.set_cons_zero, List.set_cons_succ, List.take_succ_cons, List.take_zero, List.drop_succ_cons, List.drop_zero]
            have HG1 := hd hg.1
            clear hg
            go_wp2_with fail
            go_roundw
            case rel =>
              exact ⟨k + 1, by omega, by rw [HST.out], by go_num, HG1.out⟩
            case measure => exact HMS.out
        · have hlz : ¬ (k : Int) < (m : Int) := by omega
          obtain rfl : m = k := by omega
          rw [List.take_of_length_le (by rw [HM.out]; exact Nat.le_refl _)]
          obtain ⟨l, hl⟩ : ∃ l, wrL (rs, qs) = l := ⟨_, rfl⟩
          rw [hl]
          have HB9 := hd HWS.out.bel
          clear HWS hkn
          go_wp2_with fail
          go_ret2
          exact VEnd.mk HB9.out

set_option maxRecDepth 100000 in
set_option maxHeartbeats 1000000 in
theorem rwrite_bad {w : World} {u v : Value} {rs : List RuleD} {qs : List ReaderD} (hr : El encR 3 w u rs) (hq : El encQ 5 w v qs) (hf : okPol rs qs = false) :
    Calls Tryz.prog 11 #[.agg #[u, v]] w fun e w' => VEnd w (.tuple #[.string ⟨#[]⟩, .int .i64 70]) e w' := by
  have HCK := hd fun w' (k : Below w.heap.size w w') => rcheck_pol (hr.keep k) (hq.keep k)
  have HC0 : ckI (okPol rs qs) = 70 := by unfold ckI; rw [hf]; rfl
  rw [HC0] at HCK
  obtain ⟨x0, capr, rfl⟩ := hr.form
  obtain ⟨y0, capq, rfl⟩ := hq.form
  clear hr hq HC0 hf
  generalize rs.length = n at *
  generalize qs.length = m at *
  go_enter Tryz.func11, Tryz.ntmps11
  go_wp2_with fail
  have B1 := below1 w (Obj.cells #[Value.slice x0 n capr, Value.slice y0 m capq] 25)
  generalize w.alloc (Obj.cells #[Value.slice x0 n capr, Value.slice y0 m capq] 25) = w1 at *
  refine (HCK.out w1 B1).mono ?_
  rintro e w2 ⟨rfl, hk⟩
  have HB2 := hd (below_below B1 hk)
  clear B1 hk
  go_wp2_with fail
  go_ret2
  exact VEnd.mk HB2.out

end Go.Proofs.YtcigbfjmnhogiaaGreatDoor
