/- Bytes are added to a knot. -/
import Derived.Test.YteefpbeglmnilaaDoorPu
import Derived.Laws.CopyRow
namespace Go.Proofs.YteefpbeglmnilaaDoor
open Go.RowKit
set_option linter.unusedVariables false

theorem und25 : Tryd.prog.underlying 22 = some (.slice 5) := by kernel_rfl
theorem s5' : (Tryd.prog.info? 5).map (·.size) = some 1 := by kernel_rfl
theorem info47 : (Tryd.prog.info? 68).map (·.size) = some 64 := by kernel_rfl
theorem built47 : Tryd.prog.built 68 [] = some (bs (List.replicate 64 0)).toArray := by kernel_rfl

/-- The slice v holds the bytes m, in a block that is not b; or is empty. -/
def Ap (b : Nat) (w : World) (v : Value) (m : List Int) : Prop :=
  (m = [] ∧ ∃ x cap, v = .slice x 0 cap) ∨ ∃ g off cap, v = .slice (some ⟨g, off, none⟩) m.length cap ∧ 0 < m.length ∧ m.length ≤ cap ∧ m.length ≤ 140737488355328 ∧ g ≠ b ∧ g < w.heap.size ∧ ∀ i, i < m.length → w.cell? ⟨g, off + i, none⟩ = some (.int .u8 (m.getD i 0))

theorem Row.putAt {w : World} {b o : Nat} {t : TypeId} {vs us : List Value} (h : Row w b t vs) : Row (w.setRow b (vs.toArray.toList.take o ++ us ++ vs.toArray.toList.drop (o + us.length)).toArray) b t (vs.take o ++ us ++ vs.drop (o + us.length)) := Row.put h

theorem kp_setRow {S : Nat → Prop} {a w : World} (h : Kp S a w) (g : Nat) (cs : Array Value) (hg : g < a.heap.size → S g) : Kp S a (w.setRow g cs) :=
  ⟨h.os, h.tape, h.output, Nat.le_trans h.size (by simp), fun k hk hs => (setRow_other w g k cs (fun e => hs (e ▸ hg (e ▸ hk)))).trans (h.block k hk hs)⟩

/-- A copy into a knot's part. -/
theorem copy_part (b g off s n len cap : Nat) (w : World) (r : Sha.R) (p x : List Int) (z : Int) (hp : p.length = 64) (h : Row w b 70 (kn r Sha.K p z)) (hn : x.length = n) (hs : s + n ≤ 64) (hmin : n = min len (64 - s))
    (hc : ∀ i, i < n → w.cell? ⟨g, off + i, none⟩ = some (.int .u8 (x.getD i 0))) :
    ∃ w', (Builtin.copy_ #[22, 22] 3 #[.slice (some ⟨b, 73 + s, none⟩) (64 - s) (64 - s), .slice (some ⟨g, off, none⟩) len cap]).run Tryd.prog w = .ok (.int .i64 (n : Int)) w' ∧ Row w' b 70 (kn r Sha.K (p.take s ++ x ++ p.drop (s + n)) z) ∧ Kp (fun k => k = b) w w' := by
  have hl : (bs x).length = n := by rw [bs_len, hn]
  have h2 := run_copy_row (P := Tryd.prog) w 22 22 3 5 b (73 + s) (64 - s) (64 - s) ⟨g, off, none⟩ len cap _ 70 (bs x) und25 s5' h (by rw [hl, hmin])
    (fun j v hj => by
      have hj' : j < x.length := by
        by_cases hh : j < x.length
        · exact hh
        · rw [List.getElem?_eq_none (by rw [bs_len]; omega)] at hj; cases hj
      have := hc j (by omega)
      rw [bs, List.getElem?_map, List.getElem?_eq_getElem hj'] at hj
      simp only [Option.map_some, Option.some.injEq] at hj
      rw [List.getD_eq_getElem?_getD, List.getElem?_eq_getElem hj', Option.getD_some] at this
      rw [← hj, Addr.add_lit]
      exact this)
    (by rw [List.size_toArray, kn_len r Sha.K p z rfl hp, hl]; omega)
    (fun v hv => by obtain ⟨_, _, rfl⟩ := List.mem_map.1 hv; rfl)
  refine ⟨_, by rw [h2, hl]; rfl, ?_, kp_setRow (Kp.refl _ _) _ _ (fun _ => rfl)⟩
  have e := kn_put r Sha.K p x z s rfl (by omega)
  rw [← hn, ← e, ← bs_len x]
  exact Row.putAt h

theorem step_copy_run {P : Program} {ops : Array Oper} {o : Oper} {a : Act} {w : World} {K : Act → World → Prop} {Q : Exit → Act → World → Prop} {E : Prop}
    (hg : o.guard = none) (s x : Operand) (t : TypeId) (hop : o.op = Op.call { callee := Callee.builtin Builtin.copy, args := #[s, x], argTypes := #[t, t] })
    (vs vx : Value) (hs : a.eval s = vs) (hx : a.eval x = vx) (v' : Value) (w' : World) (hrun : (Builtin.copy_ #[t, t] o.type #[vs, vx]).run P w = .ok v' w')
    (hK : K (a.put o.dst v') w') : if Region.wanted o (yielded ops a.tmps) = true then Oper.wp P o a w K Q else E := by
  have hw : Region.wanted o (yielded ops a.tmps) = true := by simp [Region.wanted, hg]
  rw [if_pos hw]
  unfold Oper.wp
  simp [execOp, hop, resolve, invoke, builtin, hs, hx, hrun, Result.andThen]
  exact hK

/-- A knot's part is cleared. -/
theorem wpList_store_part {ops : Array Oper} {rest : List Oper} {op : Oper} {a : Act} {w : World} {Q : Exit → Act → World → Prop} (hgd : op.guard = none) (hdst : op.dst = none) (x y : Operand) (ho : op.op = .store 68 x y)
    (b : Nat) (r : Sha.R) (p : List Int) (z : Int) (hp : p.length = 64) (hx : a.eval x = .pointer (some ⟨b, 73, none⟩)) (hy : a.eval y = .agg (bs (List.replicate 64 0)).toArray) (h : Row w b 70 (kn r Sha.K p z))
    (hK : ∀ w', Row w' b 70 (kn r Sha.K (List.replicate 64 0) z) → Kp (fun k => k = b) w w' → wpList Tryd.prog ops Q rest a w') : wpList Tryd.prog ops Q (op :: rest) a w := by
  refine wpList_plain hgd fun K hK' => ?_
  have h2 := run_storeCells_at Tryd.prog b 73 70 (bs (List.replicate 64 0)) 0 _ w h (by rw [List.size_toArray, kn_len r Sha.K p z rfl hp, bs_len, List.length_replicate]; omega) (fun v hv => by obtain ⟨_, _, rfl⟩ := List.mem_map.1 hv; rfl)
  have hs : (storeVar 68 ⟨b, 73, none⟩ (.agg (bs (List.replicate 64 0)).toArray)).run Tryd.prog w = .ok () (w.setRow b ((kn r Sha.K p z).toArray.toList.take 73 ++ bs (List.replicate 64 0) ++ (kn r Sha.K p z).toArray.toList.drop (73 + (bs (List.replicate 64 0)).length)).toArray) := by
    cases hq : Tryd.prog.info? 68 with
    | none => have := info47; simp [hq] at this
    | some i =>
      have hi : i.size = 64 := by have := info47; simpa [hq] using this
      have hl : (bs (List.replicate 64 0)).length = 64 := rfl
      simp only [Nat.add_zero] at h2
      generalize bs (List.replicate 64 0) = zs at *
      simp [storeVar, sizeOf, typeInfo, hq, Value.cells, hi, hl, h2]
  unfold Oper.wp execOp
  simp only [ho, hx, hy, Instr.storeAt, Instr.sureAddr, Sem.run_bind, Sem.run_pure, Result.andThen_ok, hs]
  have hpa : a.put op.dst undef = a := by rw [hdst]; rfl
  have hrow : Row (w.setRow b ((kn r Sha.K p z).toArray.toList.take 73 ++ bs (List.replicate 64 0) ++ (kn r Sha.K p z).toArray.toList.drop (73 + (bs (List.replicate 64 0)).length)).toArray) b 70 (kn r Sha.K (List.replicate 64 0) z) := by
    rw [← kn_clear r Sha.K p z rfl hp]
    exact Row.putAt h
  have h3 := hK _ hrow (kp_setRow (Kp.refl _ _) _ _ (fun _ => rfl))
  rw [← hpa] at h3
  exact hK' _ _ h3

theorem Ap.keep {b : Nat} {w w' : World} {v : Value} {m : List Int} (h : Ap b w v m) (k : Kp (fun k => k = b) w w') : Ap b w' v m := by
  rcases h with h | ⟨g, off, cap, h1, h2, h3, h4, h5, h6, h7⟩
  · exact Or.inl h
  · refine Or.inr ⟨g, off, cap, h1, h2, h3, h4, h5, Nat.lt_of_lt_of_le h6 k.size, fun i hi => ?_⟩
    rw [k.cell (p := ⟨g, off + i, none⟩) h6 h5]
    exact h7 i hi

theorem byt_zeros (n : Nat) : Byt (List.replicate n 0) := fun x hx => by
  rw [List.eq_of_mem_replicate hx]
  exact ⟨by decide, by decide⟩
theorem byt_pad (p : List Int) (h : Byt p) : Byt (Sha.pad p) := h.append (byt_zeros _)

theorem slice_eq {g a1 a2 b1 b2 c1 c2 : Nat} (h1 : a1 = a2) (h2 : b1 = b2) (h3 : c1 = c2) : Value.slice (some ⟨g, a1, none⟩) b1 c1 = Value.slice (some ⟨g, a2, none⟩) b2 c2 := by
  subst h1; subst h2; subst h3; rfl

/-- A slice's length. -/
def sLen : Value → Nat
  | .slice _ k _ => k
  | _ => 0

/-- How bytes are added. -/
def AddEnd (b : Nat) (w : World) (l : List Int) (e : Ending) (w' : World) : Prop := e = .returned (.tuple #[]) ∧ Row w' b 70 (kc l) ∧ Kp (fun k => k = b) w w'

set_option maxRecDepth 100000 in
set_option maxHeartbeats 1000000 in
theorem add_none (b : Nat) (w : World) (l : List Int) (x : Option Addr) (cap : Nat) (h : Row w b 70 (kc l)) :
    Calls Tryd.prog 21 #[.pointer (some ⟨b, 0, none⟩), .slice x 0 cap] w fun e w' => AddEnd b w l e w' := by
  have H := hd (none_ok b w _ _ _ _ h)
  have H2 := hd h
  clear h
  go_enter Tryd.func21, Tryd.ntmps21
  go_wp2_with fail
  refine H.out.mono ?_
  rintro e w1 ⟨rfl, rfl⟩
  go_wp2_with fail
  refine wp_loop_rounds 1 ?_
  rw [rounds_succ]
  go_wp2_with fail
  go_end0
  exact ⟨rfl, H2.out, Kp.refl _ _⟩

set_option maxRecDepth 100000 in
set_option maxHeartbeats 1000000 in
theorem add_some (b g off n cap : Nat) (w : World) (l m : List Int) (hm : m.length = n) (hc : n ≤ cap) (hcap : n ≤ 140737488355328) (hl : l.length ≤ 140737488355328) (hb : Byt l) (hbm : Byt m) (hgb : g ≠ b) (hgw : g < w.heap.size)
    (h1 : ∀ i, i < n → w.cell? ⟨g, off + i, none⟩ = some (.int .u8 (m.getD i 0))) (h : Row w b 70 (kc l)) :
    Calls Tryd.prog 21 #[.pointer (some ⟨b, 0, none⟩), .slice (some ⟨g, off, none⟩) n cap] w fun e w' => AddEnd b w (l ++ m) e w' := by
  have H := hd (none_ok b w _ _ _ _ h)
  have H2 := hd h
  have H1 := hd h1
  have HG := hd (And.intro hgb hgw)
  have HL := hd hl
  have HBL := hd hb
  have HBM := hd hbm
  have HM := hd hm
  clear h h1 hgb hgw hl hb hbm hm
  go_enter Tryd.func21, Tryd.ntmps21
  go_wp2_with fail
  refine H.out.mono ?_
  rintro e w1 ⟨rfl, rfl⟩
  clear H
  go_wp2_with fail
  go_loopw [1] (fun u wr => ∃ j : Nat, j ≤ n ∧ ((j < n ∧ u = .slice (some ⟨g, off + j, none⟩) (n - j) (cap - j)) ∨ (j = n ∧ ∃ a c, u = .slice a 0 c)) ∧ Row wr b 70 (kc (l ++ m.take j)) ∧ Kp (fun k => k = b) w1 wr) (fun u _ => sLen u)
  case atStart =>
    refine ⟨0, Nat.zero_le _, ?_, by rw [List.take_zero, List.append_nil]; exact H2.out, Kp.refl _ _⟩
    by_cases h0 : n = 0
    · exact Or.inr ⟨h0.symm, _, _, by rw [h0]⟩
    · exact Or.inl ⟨by omega, rfl⟩
  case round =>
    clear H2
    obtain ⟨j, hj, hu, hr, hkp⟩ := hrel
    have HR := hd hr
    have HKP := hd hkp
    clear hr hkp
    rcases hu with ⟨hjn, rfl⟩ | ⟨hjn, a, c, rfl⟩
    · have hLc : (l ++ m.take j).length = l.length + j := by have := HM.out; rw [List.length_append, List.length_take]; omega
      obtain ⟨q, hq⟩ : ∃ q, q = min (n - j) (64 - (l.length + j) % 64) := ⟨_, rfl⟩
      have hx : ((m.drop j).take q).length = q := by have := HM.out; rw [List.length_take, List.length_drop]; omega
      have hxc : m.take j ++ (m.drop j).take q = m.take (j + q) := by rw [List.take_add]
      have hbx : Byt ((m.drop j).take q) := (HBM.out.drop j).take q
      have hxg : ∀ i, i < q → wr.cell? ⟨g, off + j + i, none⟩ = some (.int .u8 (((m.drop j).take q).getD i 0)) := fun i hi => by
        have hm1 := HM.out
        rw [HKP.out.cell (p := ⟨g, off + j + i, none⟩) HG.out.2 HG.out.1]
        have h2 := H1.out (j + i) (by omega)
        rw [show off + (j + i) = off + j + i by omega] at h2
        rw [h2, List.getD_eq_getElem?_getD, List.getD_eq_getElem?_getD, List.getElem?_take_of_lt hi, List.getElem?_drop]
      have hbc : Byt (l ++ m.take j) := HBL.out.append (HBM.out.take j)
      have HX : Hid (l ++ m.take (j + q) = (l ++ m.take j) ++ (m.drop j).take q) := hd (by rw [← hxc, List.append_assoc])
      have HLL := HL.out
      generalize hcur : l ++ m.take j = cur at *
      generalize (m.drop j).take q = x at *
      generalize hLL : l.length + j = L at *
      have hL : L ≤ 281474976710656 := by have := HM.out; omega
      have hrl := Sha.rest_len cur
      rw [hLc] at hrl
      have hq0 : 0 < q := by omega
      have hqd : q ≤ n - j := by omega
      have hqs : L % 64 + q ≤ 64 := by omega
      have HW0 : Row wr b 70 (kn (Sha.td cur) Sha.K (Sha.pad (Sha.rest cur)) (L : Int)) := by have h := HR.out; unfold kc at h; rw [hLc] at h; exact h
      obtain ⟨w2, hrun, hr2, hk2⟩ := copy_part b g (off + j) (L % 64) q (n - j) (cap - j) wr.drew (Sha.td cur) (Sha.pad (Sha.rest cur)) x (L : Int) (Sha.pad_len _ (by omega)) HW0 hx hqs hq hxg
      have hpp := Sha.pad_put (Sha.rest cur) x (by rw [hrl, hx]; exact hqs)
      rw [hrl, hx] at hpp
      rw [hpp] at hr2
      have c0 := HW0.get (kn_size _ Sha.K _ _ rfl (Sha.pad_len _ (by omega)))
      have c2 := hr2.get (kn_size _ Sha.K _ _ rfl (Sha.pad_len _ (by rw [List.length_append, hrl, hx]; exact hqs)))
      have f2 := hr2.frozen 137
      have PL : Hid ((Sha.pad (Sha.rest cur ++ x)).length = 64) := Sha.pad_len _ (by rw [List.length_append, hrl, hx]; exact hqs)
      have e1 : (L : Int).tmod 64 = ((L % 64 : Nat) : Int) := by rw [Int.tmod_eq_emod_of_nonneg (by omega)]; omega
      have e2 : IntKind.i64.wrap ((L : Int) + (q : Int)) = ((L + q : Nat) : Int) := by rw [IntKind.wrap_i64]; omega
      have e3 : ((L + q : Nat) : Int).tmod 64 = (((L + q) % 64 : Nat) : Int) := by rw [Int.tmod_eq_emod_of_nonneg (by omega)]; omega
      have HS3 := hd (hr2.set 137 (.int .i64 ((L + q : Nat) : Int)))
      rw [kn_setSize _ _ _ _ _ rfl PL.out] at HS3
      have K3 : Hid (Kp (fun k => k = b) w1 (w2.setCell ⟨b, 137, none⟩ (.int .i64 ((L + q : Nat) : Int)))) := (HKP.out.trans ((Kp.refl _ wr).drew.trans hk2)).setCell _ _ (fun _ => rfl)
      have HRUN := hd hrun
      have HQQ := hd (And.intro hq (And.intro hrl (And.intro hx hLc)))
      have b1 : (0 : Int) ≤ ((L % 64 : Nat) : Int) := by omega
      have b2 : ((L % 64 : Nat) : Int) ≤ 64 := by omega
      have b3 : L % 64 ≤ 64 := by omega
      have b4 : ¬ (64 = L % 64) := by omega
      have b5 : (0 : Int) < ((n - j : Nat) : Int) := by omega
      have b6 : (q : Int) ≤ ((n - j : Nat) : Int) := by omega
      have b7 : ((n - j : Nat) : Int) ≤ ((cap - j : Nat) : Int) := by omega
      have b8 : (q : Int) ≤ ((cap - j : Nat) : Int) := by omega
      have HBX : Hid (Byt (Sha.pad (Sha.rest cur ++ x))) := byt_pad _ ((hbc.drop _).append hbx)
      clear hrun hr2 hk2 hpp HW0 hrl hq hx hLc hqs
      generalize hs : L % 64 = s at *
      generalize hdn : n - j = d at *
      generalize hDn : cap - j = D at *
      generalize hLq : L + q = M at *
      have HN := hd (And.intro hs (And.intro hdn (And.intro hDn (And.intro hLq hLL))))
      clear hs hdn hDn hLq hLL hxg hbx hbc hxc HR
      by_cases hqD : q < d
      · have n1 : ¬ (D = q) := by have := HN.out; omega
        by_cases ht : M % 64 = 0
        · have ht' : ((M % 64 : Nat) : Int) = 0 := by omega
          have HT := hd ht
          go_wp2_with fail
          go_region_held3 (fun W => W.cell? ⟨b, 137, none⟩ = some (.int .i64 (L : Int))) (first | assumption | go_keep) (refine step_copy_run rfl _ _ 22 rfl _ _ rfl rfl _ w2 HRUN.out ?_)
          go_wp2_with fail
          generalize w2.setCell ⟨b, 137, none⟩ (.int .i64 (M : Int)) = w3 at *
          have EF : Hid (s + q = 64) := hd (by have h1 := HN.out; have h2 := HQQ.out; omega)
          have EP : Hid (Sha.pad (Sha.rest cur ++ x) = Sha.rest cur ++ x) := Sha.pad_full _ (by rw [List.length_append, HQQ.out.2.1, HQQ.out.2.2.1]; exact EF.out)
          have ET : Hid (Sha.tie Sha.K (Sha.td cur) (Sha.pad (Sha.rest cur ++ x)) = Sha.td (cur ++ x)) := hd (by rw [EP.out, Sha.td_full cur x (by rw [HQQ.out.2.2.2, HQQ.out.2.2.1, HN.out.1]; exact EF.out)])
          have ER : Hid (Sha.rest (cur ++ x) = []) := hd (by rw [Sha.rest_full cur x (by rw [HQQ.out.2.2.2, HQQ.out.2.2.1, HN.out.1]; exact EF.out)])
          go_region_held3 (fun _ => True) (trivial) ((go_at_call 33; refine (tieIn_ok b _ (Sha.td cur) Sha.K (Sha.pad (Sha.rest cur ++ x)) (M : Int) rfl PL.out HBX.out HS3.out.drew).mono ?_; rintro e w4 ⟨rfl, hr4, hk4⟩; have HR4 := hd hr4; have HK4 := hd (K3.out.trans ((Kp.refl _ w3).drew.trans hk4)); clear hr4 hk4))
          go_wp2_with (first
            | refine wpList_build' rfl 68 #[] rfl _ (by simp; exact built47) ?_
            | (refine wpList_store_part rfl rfl _ _ rfl b _ _ _ PL.out rfl rfl HR4.out ?_; intro w5 hr5 hk5; have HR5 := hd hr5; have HK5 := hd (HK4.out.trans hk5); clear hr5 hk5))
          go_roundw
          case rel =>
            refine ⟨j + q, by have := HN.out; omega, Or.inl ⟨by have := HN.out; omega, slice_eq (by have := HN.out; omega) (by have := HN.out; omega) (by have := HN.out; omega)⟩, ?_, HK5.out⟩
            rw [HX.out]
            unfold kc
            rw [ER.out, ← ET.out, List.length_append, HQQ.out.2.2.2, HQQ.out.2.2.1, HN.out.2.2.2.1]
            exact HR5.out
          case measure => show d - q < d; omega
        · have HT := hd ht
          have ht' : ¬ (((M % 64 : Nat) : Int) = 0) := by omega
          have ht2 : (((M % 64 : Nat) : Int) == 0) = false := by rw [beq_eq_false_iff_ne]; omega
          clear ht
          generalize ((M % 64 : Nat) : Int) = τ at *
          go_wp2_with fail
          go_region_held3 (fun W => W.cell? ⟨b, 137, none⟩ = some (.int .i64 (L : Int))) (first | assumption | go_keep) (refine step_copy_run rfl _ _ 22 rfl _ _ rfl rfl _ w2 HRUN.out ?_)
          go_wp2_with fail
          generalize w2.setCell ⟨b, 137, none⟩ (.int .i64 (M : Int)) = w3 at *
          have EF : Hid (s + q < 64) := hd (by have h1 := HN.out; have h2 := HQQ.out; have h3 := HT.out; omega)
          have ET : Hid (Sha.td (cur ++ x) = Sha.td cur) := hd (by rw [Sha.td_append cur x (by rw [HQQ.out.2.2.2, HQQ.out.2.2.1, HN.out.1]; exact EF.out)])
          have ER : Hid (Sha.rest (cur ++ x) = Sha.rest cur ++ x) := hd (by rw [Sha.rest_append cur x (by rw [HQQ.out.2.2.2, HQQ.out.2.2.1, HN.out.1]; exact EF.out)])
          go_roundw
          case rel =>
            refine ⟨j + q, by have := HN.out; omega, Or.inl ⟨by have := HN.out; omega, slice_eq (by have := HN.out; omega) (by have := HN.out; omega) (by have := HN.out; omega)⟩, ?_, K3.out⟩
            rw [HX.out]
            unfold kc
            rw [ER.out, ET.out, List.length_append, HQQ.out.2.2.2, HQQ.out.2.2.1, HN.out.2.2.2.1]
            exact HS3.out
          case measure => show d - q < d; omega
      · have hqd2 : q = d := by omega
        subst hqd2
        by_cases n1 : D = q
        · have n2 := n1.symm
          subst n2
          clear n1
          by_cases ht : M % 64 = 0
          · have ht' : ((M % 64 : Nat) : Int) = 0 := by omega
            have HT := hd ht
            go_wp2_with fail
            go_region_held3 (fun W => W.cell? ⟨b, 137, none⟩ = some (.int .i64 (L : Int))) (first | assumption | go_keep) (refine step_copy_run rfl _ _ 22 rfl _ _ rfl rfl _ w2 HRUN.out ?_)
            go_wp2_with fail
            generalize w2.setCell ⟨b, 137, none⟩ (.int .i64 (M : Int)) = w3 at *
            have EF : Hid (s + q = 64) := hd (by have h1 := HN.out; have h2 := HQQ.out; omega)
            have EP : Hid (Sha.pad (Sha.rest cur ++ x) = Sha.rest cur ++ x) := Sha.pad_full _ (by rw [List.length_append, HQQ.out.2.1, HQQ.out.2.2.1]; exact EF.out)
            have ET : Hid (Sha.tie Sha.K (Sha.td cur) (Sha.pad (Sha.rest cur ++ x)) = Sha.td (cur ++ x)) := hd (by rw [EP.out, Sha.td_full cur x (by rw [HQQ.out.2.2.2, HQQ.out.2.2.1, HN.out.1]; exact EF.out)])
            have ER : Hid (Sha.rest (cur ++ x) = []) := hd (by rw [Sha.rest_full cur x (by rw [HQQ.out.2.2.2, HQQ.out.2.2.1, HN.out.1]; exact EF.out)])
            go_region_held3 (fun _ => True) (trivial) ((go_at_call 33; refine (tieIn_ok b _ (Sha.td cur) Sha.K (Sha.pad (Sha.rest cur ++ x)) (M : Int) rfl PL.out HBX.out HS3.out.drew).mono ?_; rintro e w4 ⟨rfl, hr4, hk4⟩; have HR4 := hd hr4; have HK4 := hd (K3.out.trans ((Kp.refl _ w3).drew.trans hk4)); clear hr4 hk4))
            go_wp2_with (first
              | refine wpList_build' rfl 68 #[] rfl _ (by simp; exact built47) ?_
              | (refine wpList_store_part rfl rfl _ _ rfl b _ _ _ PL.out rfl rfl HR4.out ?_; intro w5 hr5 hk5; have HR5 := hd hr5; have HK5 := hd (HK4.out.trans hk5); clear hr5 hk5))
            go_roundw
            case rel =>
              refine ⟨j + q, by have := HN.out; omega, Or.inr ⟨by have := HN.out; omega, _, _, rfl⟩, ?_, HK5.out⟩
              rw [HX.out]
              unfold kc
              rw [ER.out, ← ET.out, List.length_append, HQQ.out.2.2.2, HQQ.out.2.2.1, HN.out.2.2.2.1]
              exact HR5.out
            case measure => show 0 < q; omega
          · have HT := hd ht
            have ht' : ¬ (((M % 64 : Nat) : Int) = 0) := by omega
            have ht2 : (((M % 64 : Nat) : Int) == 0) = false := by rw [beq_eq_false_iff_ne]; omega
            clear ht
            generalize ((M % 64 : Nat) : Int) = τ at *
            go_wp2_with fail
            go_region_held3 (fun W => W.cell? ⟨b, 137, none⟩ = some (.int .i64 (L : Int))) (first | assumption | go_keep) (refine step_copy_run rfl _ _ 22 rfl _ _ rfl rfl _ w2 HRUN.out ?_)
            go_wp2_with fail
            generalize w2.setCell ⟨b, 137, none⟩ (.int .i64 (M : Int)) = w3 at *
            have EF : Hid (s + q < 64) := hd (by have h1 := HN.out; have h2 := HQQ.out; have h3 := HT.out; omega)
            have ET : Hid (Sha.td (cur ++ x) = Sha.td cur) := hd (by rw [Sha.td_append cur x (by rw [HQQ.out.2.2.2, HQQ.out.2.2.1, HN.out.1]; exact EF.out)])
            have ER : Hid (Sha.rest (cur ++ x) = Sha.rest cur ++ x) := hd (by rw [Sha.rest_append cur x (by rw [HQQ.out.2.2.2, HQQ.out.2.2.1, HN.out.1]; exact EF.out)])
            go_roundw
            case rel =>
              refine ⟨j + q, by have := HN.out; omega, Or.inr ⟨by have := HN.out; omega, _, _, rfl⟩, ?_, K3.out⟩
              rw [HX.out]
              unfold kc
              rw [ER.out, ET.out, List.length_append, HQQ.out.2.2.2, HQQ.out.2.2.1, HN.out.2.2.2.1]
              exact HS3.out
            case measure => show 0 < q; omega
        · skip
          by_cases ht : M % 64 = 0
          · have ht' : ((M % 64 : Nat) : Int) = 0 := by omega
            have HT := hd ht
            go_wp2_with fail
            go_region_held3 (fun W => W.cell? ⟨b, 137, none⟩ = some (.int .i64 (L : Int))) (first | assumption | go_keep) (refine step_copy_run rfl _ _ 22 rfl _ _ rfl rfl _ w2 HRUN.out ?_)
            go_wp2_with fail
            generalize w2.setCell ⟨b, 137, none⟩ (.int .i64 (M : Int)) = w3 at *
            have EF : Hid (s + q = 64) := hd (by have h1 := HN.out; have h2 := HQQ.out; omega)
            have EP : Hid (Sha.pad (Sha.rest cur ++ x) = Sha.rest cur ++ x) := Sha.pad_full _ (by rw [List.length_append, HQQ.out.2.1, HQQ.out.2.2.1]; exact EF.out)
            have ET : Hid (Sha.tie Sha.K (Sha.td cur) (Sha.pad (Sha.rest cur ++ x)) = Sha.td (cur ++ x)) := hd (by rw [EP.out, Sha.td_full cur x (by rw [HQQ.out.2.2.2, HQQ.out.2.2.1, HN.out.1]; exact EF.out)])
            have ER : Hid (Sha.rest (cur ++ x) = []) := hd (by rw [Sha.rest_full cur x (by rw [HQQ.out.2.2.2, HQQ.out.2.2.1, HN.out.1]; exact EF.out)])
            go_region_held3 (fun _ => True) (trivial) ((go_at_call 33; refine (tieIn_ok b _ (Sha.td cur) Sha.K (Sha.pad (Sha.rest cur ++ x)) (M : Int) rfl PL.out HBX.out HS3.out.drew).mono ?_; rintro e w4 ⟨rfl, hr4, hk4⟩; have HR4 := hd hr4; have HK4 := hd (K3.out.trans ((Kp.refl _ w3).drew.trans hk4)); clear hr4 hk4))
            go_wp2_with (first
              | refine wpList_build' rfl 68 #[] rfl _ (by simp; exact built47) ?_
              | (refine wpList_store_part rfl rfl _ _ rfl b _ _ _ PL.out rfl rfl HR4.out ?_; intro w5 hr5 hk5; have HR5 := hd hr5; have HK5 := hd (HK4.out.trans hk5); clear hr5 hk5))
            go_roundw
            case rel =>
              refine ⟨j + q, by have := HN.out; omega, Or.inr ⟨by have := HN.out; omega, _, _, rfl⟩, ?_, HK5.out⟩
              rw [HX.out]
              unfold kc
              rw [ER.out, ← ET.out, List.length_append, HQQ.out.2.2.2, HQQ.out.2.2.1, HN.out.2.2.2.1]
              exact HR5.out
            case measure => show 0 < q; omega
          · have HT := hd ht
            have ht' : ¬ (((M % 64 : Nat) : Int) = 0) := by omega
            have ht2 : (((M % 64 : Nat) : Int) == 0) = false := by rw [beq_eq_false_iff_ne]; omega
            clear ht
            generalize ((M % 64 : Nat) : Int) = τ at *
            go_wp2_with fail
            go_region_held3 (fun W => W.cell? ⟨b, 137, none⟩ = some (.int .i64 (L : Int))) (first | assumption | go_keep) (refine step_copy_run rfl _ _ 22 rfl _ _ rfl rfl _ w2 HRUN.out ?_)
            go_wp2_with fail
            generalize w2.setCell ⟨b, 137, none⟩ (.int .i64 (M : Int)) = w3 at *
            have EF : Hid (s + q < 64) := hd (by have h1 := HN.out; have h2 := HQQ.out; have h3 := HT.out; omega)
            have ET : Hid (Sha.td (cur ++ x) = Sha.td cur) := hd (by rw [Sha.td_append cur x (by rw [HQQ.out.2.2.2, HQQ.out.2.2.1, HN.out.1]; exact EF.out)])
            have ER : Hid (Sha.rest (cur ++ x) = Sha.rest cur ++ x) := hd (by rw [Sha.rest_append cur x (by rw [HQQ.out.2.2.2, HQQ.out.2.2.1, HN.out.1]; exact EF.out)])
            go_roundw
            case rel =>
              refine ⟨j + q, by have := HN.out; omega, Or.inr ⟨by have := HN.out; omega, _, _, rfl⟩, ?_, K3.out⟩
              rw [HX.out]
              unfold kc
              rw [ER.out, ET.out, List.length_append, HQQ.out.2.2.2, HQQ.out.2.2.1, HN.out.2.2.2.1]
              exact HS3.out
            case measure => show 0 < q; omega
    · subst hjn
      rw [List.take_of_length_le (by rw [HM.out]; exact Nat.le_refl _)] at HR
      go_wp2_with fail
      go_end0
      exact ⟨rfl, HR.out, HKP.out⟩

theorem add_ok {b : Nat} {w : World} {l m : List Int} {v : Value} (h : Row w b 70 (kc l)) (hv : Ap b w v m) (hl : l.length ≤ 140737488355328) (hb : Byt l) (hbm : Byt m) :
    Calls Tryd.prog 21 #[.pointer (some ⟨b, 0, none⟩), v] w fun e w' => AddEnd b w (l ++ m) e w' := by
  rcases hv with ⟨rfl, x, cap, rfl⟩ | ⟨g, off, cap, rfl, _, h3, h4, h5, h6, h7⟩
  · rw [List.append_nil]; exact add_none b w l x cap h
  · exact add_some b g off m.length cap w l m rfl h3 h4 hl hb hbm h5 h6 h7 h

end Go.Proofs.YteefpbeglmnilaaDoor
