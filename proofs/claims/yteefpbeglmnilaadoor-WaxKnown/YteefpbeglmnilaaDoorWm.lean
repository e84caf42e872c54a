/- A key made whole; a knot that begins with it. -/
import Derived.Test.YteefpbeglmnilaaDoorWx
import Derived.Test.YteefpbeglmnilaaDoorLb
import Derived.Test.YteefpbeglmnilaaDoorOw
namespace Go.Proofs.YteefpbeglmnilaaDoor
open Go.RowKit
set_option linter.unusedVariables false

theorem und39 : Tryd.prog.underlying 39 = some (.array 64 5) := by kernel_rfl
theorem info39 : (Tryd.prog.info? 39).map (·.size) = some 64 := by kernel_rfl

theorem run_copy_nil' {b : Nat} (w : World) (cap : Nat) : (Builtin.copy_ #[22, 22] 3 #[.slice (some ⟨b, 0, none⟩) 64 64, .slice none 0 cap]).run Tryd.prog w = .ok (.int .i64 ((([] : List Int).length : Nat) : Int)) w := by
  obtain ⟨i, hq, _⟩ := info5
  simp [Builtin.copy_, run_underlying und25, Builtin.lenOf, Builtin.firstCells, sizeOf, typeInfo, hq, storeCells, goInt]

/-- copy into a row of 64 zeros that lies in a block of its own. -/
theorem copy_whole {w : World} {b : Nat} {v : Value} {l : List Int} (h : Row w b 39 (bs (List.replicate 64 0))) (hv : Sl w v l) (hl : l.length ≤ 64) :
    ∃ w', (Builtin.copy_ #[22, 22] 3 #[.slice (some ⟨b, 0, none⟩) 64 64, v]).run Tryd.prog w = .ok (.int .i64 (l.length : Int)) w' ∧ Row w' b 39 (bs (Sha.pad l)) ∧ Kp (fun k => k = b) w w' := by
  have hp : Sha.pad l = l ++ List.replicate (64 - l.length) 0 := rfl
  have key : ∀ a : Addr, ∀ n cap, n = l.length → (∀ j v, (bs l)[j]? = some v → w.cell? (a.add j) = some v) →
      ∃ w', (Builtin.copy_ #[22, 22] 3 #[.slice (some ⟨b, 0, none⟩) 64 64, .slice (some a) n cap]).run Tryd.prog w = .ok (.int .i64 (l.length : Int)) w' ∧ Row w' b 39 (bs (Sha.pad l)) ∧ Kp (fun k => k = b) w w' := by
    intro a n cap hn hc
    have h2 := run_copy_row (P := Tryd.prog) w 22 22 3 5 b 0 64 64 a n cap _ 39 (bs l) und25 s5' h (by rw [bs_len, hn]; exact (Nat.min_eq_left hl).symm) hc (by simp [bs]; omega) (fun v hv => by obtain ⟨_, _, rfl⟩ := List.mem_map.1 hv; rfl)
    refine ⟨_, by rw [bs_len] at h2; exact h2, ?_, kp_setRow (Kp.refl _ _) _ _ (fun _ => rfl)⟩
    have e : (bs (List.replicate 64 0)).take 0 ++ bs l ++ (bs (List.replicate 64 0)).drop (0 + (bs l).length) = bs (Sha.pad l) := by
      rw [hp, bs_len]
      simp only [bs, List.map_append, List.map_replicate, List.take_zero, List.nil_append, List.drop_replicate, Nat.zero_add]
    rw [← e, ← bs_len l]
    exact Row.putAt h
  rcases hv with ⟨rfl, x, cap, rfl⟩ | ⟨g, off, cap, rfl, h0, h1, h2, h3, h4⟩
  · cases x with
    | none =>
      refine ⟨w, ?_, ?_, Kp.refl _ _⟩
      · exact run_copy_nil' w cap
      · exact h
    | some a => exact key a 0 cap rfl (fun j v hj => by simp [bs] at hj)
  · refine key ⟨g, off, none⟩ l.length cap rfl (fun j v hj => ?_)
    have hj' : j < l.length := by
      by_cases hh : j < l.length
      · exact hh
      · rw [List.getElem?_eq_none (by rw [bs_len]; omega)] at hj; cases hj
    have := h4 j hj'
    rw [bs, List.getElem?_map, List.getElem?_eq_getElem hj'] at hj
    simp only [Option.map_some, Option.some.injEq] at hj
    rw [List.getD_eq_getElem?_getD, List.getElem?_eq_getElem hj', Option.getD_some] at this
    rw [← hj, Addr.add_lit]
    exact this

theorem wpList_copy_run {P : Program} (w : World) {ops : Array Oper} {rest : List Oper} {o : Oper} {a : Act} {Q : Exit → Act → World → Prop}
    (hg : o.guard = none) (s x : Operand) (t tx : TypeId) (hop : o.op = Op.call { callee := Callee.builtin Builtin.copy, args := #[s, x], argTypes := #[t, tx] })
    (vs vx : Value) (hs : a.eval s = vs) (hx : a.eval x = vx) (v' : Value) (w' : World) (hrun : (Builtin.copy_ #[t, tx] o.type #[vs, vx]).run P w = .ok v' w')
    (hK : wpList P ops Q rest (a.put o.dst v') w') : wpList P ops Q (o :: rest) a w := by
  refine wpList_plain hg fun K hK' => ?_
  unfold Oper.wp
  simp [execOp, hop, resolve, invoke, builtin, hs, hx, hrun, Result.andThen]
  exact hK' _ _ hK

theorem Sl.form {w : World} {v : Value} {l : List Int} (h : Sl w v l) : ∃ x cap, v = .slice x l.length cap := by
  rcases h with ⟨rfl, x, cap, rfl⟩ | ⟨g, off, cap, rfl, _⟩
  · exact ⟨x, cap, rfl⟩
  · exact ⟨_, _, rfl⟩
theorem Row.sl {w : World} {g : Nat} {t : TypeId} {p : List Int} (h : Row w g t (bs p)) (h0 : 0 < p.length) (cap : Nat) (hc : p.length ≤ cap) (hcap : cap ≤ 140737488355328) : Sl w (.slice (some ⟨g, 0, none⟩) p.length cap) p := by
  refine Or.inr ⟨g, 0, cap, rfl, h0, hc, by omega, h.lt, fun i hi => ?_⟩
  rw [Nat.zero_add]
  refine h.get ?_
  rw [bs, List.getElem?_map, List.getElem?_eq_getElem hi, List.getD_eq_getElem?_getD, List.getElem?_eq_getElem hi]
  rfl

set_option maxRecDepth 100000 in
set_option maxHeartbeats 1000000 in
theorem made_ok {w : World} {v : Value} {l : List Int} (hv : Sl w v l) (hl : l.length ≤ 70368744177664) (hb : Byt l) :
    Calls Tryd.prog 18 #[v] w fun e w' => DigEnd w (Sha.key64 l) e w' := by
  obtain ⟨x, cap, rfl⟩ := hv.form
  have HV := hd hv
  clear hv
  have HP : Hid (Sha.key64 l = Sha.pad (if 64 < l.length then Sha.dig l else l)) := rfl
  have HN : ∃ n, l.length = n := ⟨_, rfl⟩
  obtain ⟨n, hn⟩ := HN
  rw [hn] at HV HP ⊢
  have HN := hd hn
  have hl' : n ≤ 70368744177664 := by omega
  clear hn
  have R1 := Row.new w 39 (bs (List.replicate 64 0))
  have R2 := Row.new (w.alloc (.cells (bs (List.replicate 64 0)).toArray 39)) 39 (bs (List.replicate 64 0))
  have R1' := R1.alloc (.cells (bs (List.replicate 64 0)).toArray 39)
  have B2 : Below w.heap.size w ((w.alloc (.cells (bs (List.replicate 64 0)).toArray 39)).alloc (.cells (bs (List.replicate 64 0)).toArray 39)) := ((Below.refl _ _).alloc (Nat.le_refl _) _).alloc (by simp) _
  have Z2 : Hid (((w.alloc (.cells (bs (List.replicate 64 0)).toArray 39)).alloc (.cells (bs (List.replicate 64 0)).toArray 39)).heap.size = w.heap.size + 2) := hd (by simp)
  rw [World.size_alloc] at R2
  have R1h := hd R1'
  have R2h := hd R2
  have B2h := hd B2
  clear R1 R2 R1' B2
  have HV2 := hd (HV.out.keep B2h.out)
  by_cases h64 : 64 < n
  · have c1 : (64 : Int) < (n : Int) := by omega
    rw [if_pos h64] at HP
    clear h64
    go_enter Tryd.func18, Tryd.ntmps18
    go_wp2_with fail
    change Calls Tryd.prog 14 _ ((w.alloc (.cells (bs (List.replicate 64 0)).toArray 39)).alloc (.cells (bs (List.replicate 64 0)).toArray 39)) _
    generalize (w.alloc (.cells (bs (List.replicate 64 0)).toArray 39)).alloc (.cells (bs (List.replicate 64 0)).toArray 39) = w1 at *
    refine (of_ok HV2.out hl hb).mono ?_
    rintro e w2 ⟨rfl, hk⟩
    have LD := hd (dig_len l)
    have OD := hd (bs_one (Sha.dig l))
    have BD := hd (byt_dig l)
    have Z2' : Hid (w.heap.size + 2 ≤ w2.heap.size) := hd (by rw [← Z2.out]; exact hk.size)
    have RA2 : Hid (Row w2 w.heap.size 39 (bs (List.replicate 64 0))) := hd (R1h.out.keep hk R1h.out.lt)
    have RB2 : Hid (Row w2 (w.heap.size + 1) 39 (bs (List.replicate 64 0))) := hd (R2h.out.keep hk R2h.out.lt)
    have B2 : Hid (Below w.heap.size w w2) := hd (below_below B2h.out hk)
    clear hk R1h R2h B2h Z2 HV2 HV
    generalize hdd : Sha.dig l = d at *
    have HD := hd hdd
    clear hdd
    have Q1 := Row.new w2 24 (bs (List.replicate 32 0))
    have Q2 := hd (Q1.put (us := bs d))
    have Q1h := hd Q1
    have WB3 : Hid (Below w2.heap.size w2 ((w2.alloc (.cells (bs (List.replicate 32 0)).toArray 24)).setRow w2.heap.size (bs d).toArray)) := hd (below_setRow ((Below.refl _ _).alloc (Nat.le_refl _) _) _ _ (Nat.le_refl _))
    clear Q1
    generalize hW : (w2.alloc (.cells (bs (List.replicate 32 0)).toArray 24)).setRow w2.heap.size (bs d).toArray = W at *
    have RA : Hid (Row W w.heap.size 39 (bs (List.replicate 64 0))) := hd (RA2.out.keep WB3.out RA2.out.lt)
    have RB : Hid (Row W (w.heap.size + 1) 39 (bs (List.replicate 64 0))) := hd (RB2.out.keep WB3.out RB2.out.lt)
    have WB : Hid (Below w.heap.size w W) := hd (below_below B2.out WB3.out)
    have WS : Hid (w.heap.size + 1 ≤ W.heap.size) := hd (by have := Z2'.out; have := WB3.out.size; omega)
    obtain ⟨W3, hrun, hr, hk⟩ := copy_whole RB.out (Q2.out.sl (by rw [LD.out]; decide) 32 (by rw [LD.out]; decide) (by decide)) (by rw [LD.out]; decide)
    rw [LD.out] at hrun
    have LZ := hd (key64_len l)
    have OZ := hd (bs_one (Sha.key64 l))
    rw [← HP.out] at hr
    have hrr := hd hr
    clear hr HP
    generalize hzz : Sha.key64 l = z at *
    have HZ := hd hzz
    clear hzz
    have RS : Hid (Row W3 w.heap.size 39 (bs (List.replicate 64 0))) := hd (RA.out.keep (hk.below (w.heap.size + 1) WS.out (fun i hi e => by omega)) (by omega))
    have BS : Hid (Below w.heap.size w W3) := hd (below_kp WB.out hk (Nat.le_succ _) (Nat.le_trans (Nat.le_succ _) WS.out))
    have tok : True := trivial
    subst hW
    go_wp2_with (first
      | refine wpList_store_row rfl 24 _ _ rfl w2.heap.size (bs d).toArray rfl rfl 24 _ Q1h.out (by rw [List.size_toArray, bs_len, LD.out]; exact info28) (by simp only [List.size_toArray, bs_len, LD.out, List.length_replicate]) OD.out ?_
      | (have _t := tok; refine wpList_copy_run _ rfl _ _ _ _ rfl _ _ rfl rfl _ W3 hrun ?_; clear tok)
      | refine wpList_load_row rfl 39 _ rfl (w.heap.size + 1) rfl 39 (bs z).toArray (0, 0) _ hrr.out und39 rfl (by rw [List.size_toArray, bs_len, LZ.out]; exact info39) ?_
      | refine wpList_store_row rfl 39 _ _ rfl w.heap.size (bs z).toArray rfl rfl 39 _ RS.out (by rw [List.size_toArray, bs_len, LZ.out]; exact info39) (by simp only [List.size_toArray, bs_len, LZ.out, List.length_replicate]) OZ.out ?_)
    refine bodyPost_ret (v := .agg (bs z).toArray) ?_ rfl ⟨by first | rfl | rw [HZ.out], ?_⟩
    · exact results_cell_row (P := Tryd.prog) (fn := Tryd.f18) (p := 2) (ty := 39) (by kernel_rfl) _ _ w.heap.size 39 (bs z).toArray (0, 0) _ rfl (RS.out.put (us := bs z)) und39 rfl (by rw [List.size_toArray, bs_len, LZ.out]; exact info39)
    · exact below_setRow BS.out _ _ (Nat.le_refl _)
  · have c1 : ¬ (64 : Int) < (n : Int) := by omega
    rw [if_neg h64] at HP
    obtain ⟨W3, hrun, hr, hk⟩ := copy_whole R2h.out HV2.out (by rw [HN.out]; omega)
    have RA := R1h
    have WB := B2h
    have WS : Hid (w.heap.size + 1 ≤ ((w.alloc (.cells (bs (List.replicate 64 0)).toArray 39)).alloc (.cells (bs (List.replicate 64 0)).toArray 39)).heap.size) := hd (by rw [Z2.out]; omega)
    clear h64 R1h R2h B2h Z2 HV2 HV
    go_enter Tryd.func18, Tryd.ntmps18
    have LZ := hd (key64_len l)
    have OZ := hd (bs_one (Sha.key64 l))
    rw [← HP.out] at hr
    have hrr := hd hr
    clear hr HP
    generalize hzz : Sha.key64 l = z at *
    have HZ := hd hzz
    clear hzz
    have RS : Hid (Row W3 w.heap.size 39 (bs (List.replicate 64 0))) := hd (RA.out.keep (hk.below (w.heap.size + 1) WS.out (fun i hi e => by omega)) (by omega))
    have BS : Hid (Below w.heap.size w W3) := hd (below_kp WB.out hk (Nat.le_succ _) (Nat.le_trans (Nat.le_succ _) WS.out))
    have tok : True := trivial
    go_wp2_with (first
      | (have _t := tok; refine wpList_copy_run _ rfl _ _ _ _ rfl _ _ rfl rfl _ W3 hrun ?_; clear tok)
      | refine wpList_load_row rfl 39 _ rfl (w.heap.size + 1) rfl 39 (bs z).toArray (0, 0) _ hrr.out und39 rfl (by rw [List.size_toArray, bs_len, LZ.out]; exact info39) ?_
      | refine wpList_store_row rfl 39 _ _ rfl w.heap.size (bs z).toArray rfl rfl 39 _ RS.out (by rw [List.size_toArray, bs_len, LZ.out]; exact info39) (by simp only [List.size_toArray, bs_len, LZ.out, List.length_replicate]) OZ.out ?_)
    refine bodyPost_ret (v := .agg (bs z).toArray) ?_ rfl ⟨by first | rfl | rw [HZ.out], ?_⟩
    · exact results_cell_row (P := Tryd.prog) (fn := Tryd.f18) (p := 2) (ty := 39) (by kernel_rfl) _ _ w.heap.size 39 (bs z).toArray (0, 0) _ rfl (RS.out.put (us := bs z)) und39 rfl (by rw [List.size_toArray, bs_len, LZ.out]; exact info39)
    · exact below_setRow BS.out _ _ (Nat.le_refl _)
end Go.Proofs.YteefpbeglmnilaaDoor
