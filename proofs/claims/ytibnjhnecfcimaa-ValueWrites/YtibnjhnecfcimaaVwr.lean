/- ValueWrites: the law's walk. -/
import Derived.Test.YtibnjhnecfcimaaWkv
import Derived.Test.YtibnjhnecfcimaaCp8
import Derived.Test.YtibnjhnecfcimaaVt
namespace Go.Proofs.Ytibnjhnecfcimaa
open Go.RowKit
set_option linter.unusedVariables false

theorem fl_rev {α : Type} {enc : α → List Value} {k : Nat} (hk : ∀ x, (enc x).length = k) (hk0 : 0 < k) (xs : List α) (j : Nat) (u : Value) (h : (fl enc xs)[j]? = some u) :
    ∃ (q i : Nat) (hq : q < xs.length), j = q * k + i ∧ (enc xs[q])[i]? = some u := by
  have hj := (List.getElem?_eq_some_iff.1 h).1
  rw [fl_len hk] at hj
  have hq : j / k < xs.length := by rw [Nat.div_lt_iff_lt_mul hk0]; exact hj
  have hi : j % k < k := Nat.mod_lt _ hk0
  have he : j = j / k * k + j % k := by
    have := Nat.div_add_mod j k
    rw [Nat.mul_comm] at this
    exact this.symm
  obtain ⟨u', hu⟩ : ∃ u', (enc xs[j / k])[j % k]? = some u' := ⟨_, List.getElem?_eq_getElem (l := enc xs[j / k]) (by rw [hk]; exact hi)⟩
  have h2 := fl_at hk xs (j / k) hq (j % k) u' hu
  rw [← he, h] at h2
  cases h2
  exact ⟨j / k, j % k, hq, he, hu⟩
theorem src_cells {α : Type} {enc : α → List Value} {k : Nat} (hk : ∀ x, (enc x).length = k) (hk0 : 0 < k) {W : World} {g off cap : Nat} {xs : List α} (h : El enc k W (.slice (some ⟨g, off, none⟩) xs.length cap) xs) :
    ∀ j u, (fl enc xs)[j]? = some u → W.cell? ((⟨g, off, none⟩ : Addr).add j) = some u := by
  intro j u hj
  obtain ⟨q, i, hq, he, hu⟩ := fl_rev hk hk0 xs j u hj
  rcases h with ⟨rfl, _⟩ | ⟨g', off', cap', hv, _, _, _, hc⟩
  · simp at hq
  · cases hv
    have := hc q hq i u hu
    rw [Addr.add_lit, he]
    rw [← Nat.add_assoc]
    exact this

theorem append_els {w : World} {x : Value} {xs : List AttrD} (hx : El encA 6 w x xs) (hn : xs.length ≤ 2199023255488) (ty : TypeId) :
    ∃ v' w', (Builtin.append_ #[24, 24] ty #[.slice none 0 0, x]).run Try.prog w = .ok v' w' ∧ El encA 6 w' v' xs ∧ Below w.heap.size w w' := by
  obtain ⟨i, z, hi, hz, hzs, hs, hby⟩ := info35f
  obtain ⟨a, cap, rfl⟩ := hx.form
  cases ha : a with
  | none =>
    subst ha
    have hxs : xs = [] := by
      rcases hx with ⟨h0, _⟩ | ⟨g, off, cap', hv, _⟩
      · exact h0
      · cases hv
    subst hxs
    refine ⟨.slice none 0 0, w, ?_, Or.inl ⟨rfl, none, 0, rfl⟩, Below.refl _ _⟩
    simp [Builtin.append_, run_underlying Try.underlying24, sizeOf, typeInfo, hi, Builtin.lenOf, Builtin.firstCells]
  | some a =>
    subst ha
    have hsrc : ∀ j u, (fl encA xs)[j]? = some u → w.cell? (a.add j) = some u := by
      by_cases h0 : xs = []
      · subst h0
        intro j u hj
        simp [fl] at hj
      · rcases hx with ⟨h1, _⟩ | ⟨g, off, cap', hv, h2, h3, h4, h5⟩
        · exact absurd h1 h0
        · cases hv
          exact src_cells lenA (by omega) (Or.inr ⟨g, off, cap, rfl, h2, h3, h4, h5⟩)
    obtain ⟨v', w', hr, ho, hg, _, _⟩ := run_append_own_at (P := Try.prog) w w.heap.size 24 ty 35 i z 6 64 Try.underlying24 hi hz hs hby hzs (by omega) (.slice none 0 0) 0 [] (World.ownsRow_nil w w.heap.size 35 6) a xs.length cap (fl encA xs) (fl_len lenA xs)
      hsrc (fl_one' oneA xs) (by simp only [maxLen]; omega) (by omega) (Nat.le_refl _)
    rw [Nat.zero_add, List.nil_append] at ho
    exact ⟨v', w', hr, el_of_own lenA ho (by omega), below_grown hg (Nat.le_refl _) (fun k hk => by simp [Value.ownBlock] at hk)⟩

set_option maxRecDepth 100000 in
set_option maxHeartbeats 8000000 in
theorem writes_walk (k n : Int) (s : ByteArray) (k2 n2 : Int) (s2 : ByteArray) (l : Value) (xs : List AttrD) (w : World) (hx : El encA 6 w l xs) (hw : ∀ x ∈ xs, WfA x) (hn : xs.length ≤ 2199023255488) :
    Calls Try.prog 3 #[.agg #[.int .i64 k, .int .i64 n, .string s], .agg #[.int .i64 k2, .int .i64 n2, .string s2], l] w fun e w' => VEnd w (.bool true) e w' := by
  obtain ⟨lx, lc, rfl⟩ := hx.form
  obtain ⟨nx, hnx⟩ : ∃ q, xs.length = q := ⟨_, rfl⟩
  have h47 : nx ≤ 140737488355328 := by omega
  rw [hnx] at hx hn ⊢
  have HNX := hd hnx; have HX := hd hx; have HW := hd hw; have HN := hd hn
  have HC1 := hd fun w => checkV_any k n s w
  have HC2 := hd fun w => rcheckV_any k n s w
  have HB1 := hd fun w => vbytes_any (k, n, s) w
  have HB2 := hd fun w => rvbytes_any (k, n, s) w
  have HM1 := hd fun w => cmp_any (k, n, s) (k2, n2, s2) w
  have HM2 := hd fun w => rcmp_any (k, n, s) (k2, n2, s2) w
  unfold V3 at HB1 HB2 HM1 HM2
  simp only at HB1 HB2 HM1 HM2
  generalize (if okV (k, n, s) = true then valB (k, n, s) else []) = T at *
  generalize (if okV (k, n, s) = true then (0 : Int) else 80) = ev at *
  generalize cmpV (k, n, s) (k2, n2, s2) = cv at *
  have HA1 := hd fun (w : World) (v : Value) (h : El encA 6 w v xs) => attrs_any h HW.out
  have HA2 := hd fun (w : World) (v : Value) (h : El encA 6 w v xs) => rattrs_any h HW.out
  generalize (if okAs xs = true then listB xs else []) = U at *
  generalize (if okAs xs = true then (0 : Int) else 80) = eu at *
  clear hnx hx hw
  have r0 := append_els (w := (w.alloc (Obj.cells #[Value.int IntKind.i64 k, Value.int IntKind.i64 n, Value.string s] 23)).alloc (Obj.cells #[Value.int IntKind.i64 k2, Value.int IntKind.i64 n2, Value.string s2] 23)) (HX.out.keep (below2 w _ _)) (by rw [HNX.out]; exact HN.out) 24
  obtain ⟨vin, w2, hrun, hin, hk2⟩ := r0
  obtain ⟨ix, ic, rfl⟩ := hin.form
  have B2 := hd (below_below (below2 w (Obj.cells #[Value.int IntKind.i64 k, Value.int IntKind.i64 n, Value.string s] 23) (Obj.cells #[Value.int IntKind.i64 k2, Value.int IntKind.i64 n2, Value.string s2] 23)) hk2)
  have V1 := (Bk.new w 23 #[Value.int IntKind.i64 k, Value.int IntKind.i64 n, Value.string s]).alloc (Obj.cells #[Value.int IntKind.i64 k2, Value.int IntKind.i64 n2, Value.string s2] 23)
  have V2 := Bk.new (w.alloc (Obj.cells #[Value.int IntKind.i64 k, Value.int IntKind.i64 n, Value.string s] 23)) 23 #[Value.int IntKind.i64 k2, Value.int IntKind.i64 n2, Value.string s2]
  have hz1 : (w.alloc (Obj.cells #[Value.int IntKind.i64 k, Value.int IntKind.i64 n, Value.string s] 23)).heap.size = w.heap.size + 1 := by simp
  rw [hz1] at V2
  have V1b := hd (V1.keep hk2)
  have V2b := hd (V2.keep hk2)
  have HRN := hd hrun
  have HIN := hd hin
  clear hrun hin hk2 V1 V2 hz1 hn
  have hnx := HNX.out
  rw [hnx] at HRN HIN
  clear hnx
  have a0 := V1b.out.cell 0
  have a1 := V1b.out.cell 1
  have a2 := V1b.out.cell 2
  simp at a0 a1 a2
  go_enter Try.func3, Try.ntmps3
  go_wp2_with (at_builtin; refine wpList_append_run _ rfl _ _ _ _ rfl _ _ rfl rfl _ w2 HRN.out ?_)
  refine (HB1.out w2).mono ?_
  rintro e w3 ⟨p1, q1, c1, rfl, hq1, ho, hk⟩
  have V1c := hd (V1b.out.keep hk)
  have V2c := hd (V2b.out.keep hk)
  have B3 := hd (below_below B2.out hk)
  have IN3 := hd (HIN.out.keep hk)
  have T3 := hd ho
  clear hk ho V1b V2b B2 HIN hq1 a0 a1 a2
  have a0 := V1c.out.cell 0
  have a1 := V1c.out.cell 1
  have a2 := V1c.out.cell 2
  simp at a0 a1 a2
  go_wp2_with fail
  refine (HB2.out w3).mono ?_
  rintro e w4 ⟨p2, q2, c2, rfl, hq2, ho, hk⟩
  have V1d := hd (V1c.out.keep hk)
  have V2d := hd (V2c.out.keep hk)
  have B4 := hd (below_below B3.out hk)
  have IN4 := hd (IN3.out.keep hk)
  have T4 := hd (T3.out.keep hk)
  have S4 := hd ho
  clear hk ho V1c V2c B3 IN3 T3 hq2 a0 a1 a2
  go_wp2_with fail
  refine (HA1.out w4 _ IN4.out).mono ?_
  rintro e w5 ⟨p3, q3, c3, rfl, hq3, ho, hk⟩
  have V1e := hd (V1d.out.keep hk)
  have V2e := hd (V2d.out.keep hk)
  have B5 := hd (below_below B4.out hk)
  have IN5 := hd (IN4.out.keep hk)
  have T5 := hd (T4.out.keep hk)
  have S5 := hd (S4.out.keep hk)
  have U5 := hd ho
  clear hk ho V1d V2d B4 IN4 T4 S4 hq3
  go_wp2_with fail
  refine (HA2.out w5 _ (HX.out.keep B5.out)).mono ?_
  rintro e w6 ⟨p4, q4, c4, rfl, hq4, ho, hk⟩
  have V1f := hd (V1e.out.keep hk)
  have V2f := hd (V2e.out.keep hk)
  have B6 := hd (below_below B5.out hk)
  have IN6 := hd (IN5.out.keep hk)
  have T6 := hd (T5.out.keep hk)
  have S6 := hd (S5.out.keep hk)
  have U6 := hd (U5.out.keep hk)
  have R6 := hd ho
  clear hk ho V1e V2e B5 IN5 T5 S5 U5 hq4
  go_wp2_with fail
  go_loopw [16] (fun i wr => ∃ j : Nat, j ≤ nx ∧ i = .int .i64 (j : Int) ∧ Below w6.heap.size w6 wr) (fun i _ => nx - (intOf i).toNat)
  case atStart => exact ⟨0, Nat.zero_le _, rfl, Below.refl _ _⟩
  case round =>
    obtain ⟨j, hj, rfl, hb⟩ := hrel
    have HB := hd hb
    clear hb
    by_cases hlt : j < nx
    · have hlz : (j : Int) < (nx : Int) := by omega
      have hxk : j < xs.length := by rw [HNX.out]; exact hlt
      have HJ := hd hj
      clear hj
      have BW := hd (below_below B6.out HB.out)
      obtain ⟨⟨sa, xa, pa, ka, na, ba⟩, he1⟩ : ∃ r : AttrD, xs[j]'(by omega) = r := ⟨_, rfl⟩
      obtain ⟨g, off, hx, hc, h47', d0, d1, d2, d3, d4, d5⟩ := HX.out.atA BW.out HNX.out hlt he1
      subst hx
      obtain ⟨ca, hca⟩ : ∃ q : Int, (if okA (sa, xa, pa, ka, na, ba) then (0 : Int) else 80) = q := ⟨_, rfl⟩
      have HK1 := hd fun w => checkA_cells sa xa pa ka na ba w
      have HK2 := hd fun w => rcheckA_cells sa xa pa ka na ba w
      rw [hca] at HK1 HK2
      have D0 := hd d0; have D1 := hd d1; have D2 := hd d2; have D3 := hd d3; have D4 := hd d4; have D5 := hd d5
      clear he1 hca d0 d1 d2 d3 d4 d5 hxk
      go_wp2_with fail
      refine wp_region_each 11 (fun W W' => Below W.heap.size W W') (fun i v W => match i with | 0 => v = Value.slice (some ⟨g, off, none⟩) nx lc | 1 => v = Value.int IntKind.i64 (j : Int) | 2 => v = Value.pointer (some ⟨g, off + j * 6, none⟩) | 3 => v = Value.agg #[Value.string sa, Value.int IntKind.i64 xa, Value.int IntKind.u32 pa, Value.int IntKind.i64 ka, Value.int IntKind.i64 na, Value.string ba] | 4 => v = Value.int IntKind.i64 ca | 5 => v = Value.slice (some ⟨g, off, none⟩) nx lc | 6 => v = Value.int IntKind.i64 (j : Int) | 7 => v = Value.pointer (some ⟨g, off + j * 6, none⟩) | 8 => v = Value.agg #[Value.string sa, Value.int IntKind.i64 xa, Value.int IntKind.u32 pa, Value.int IntKind.i64 ka, Value.int IntKind.i64 na, Value.string ba] | 9 => v = Value.int IntKind.i64 ca | 10 => v = Value.bool false | _ => True) (fun vs W => Below wr.heap.size wr W) (by kernel_rfl) (by kernel_rfl) (fun j v W W' hE h => by
          match j with
          | 0 => exact h
          | 1 => exact h
          | 2 => exact h
          | 3 => exact h
          | 4 => exact h
          | 5 => exact h
          | 6 => exact h
          | 7 => exact h
          | 8 => exact h
          | 9 => exact h
          | 10 => exact h
          | _ + 11 => trivial) (by exact (Below.refl _ _).drew) ?_ ?_
      · simp only [List.take_succ_cons, List.take_zero]
        refine Each.cons (fun vs W hl => ?_) ?_
        · apply with11 hl
          clear hl vs
          intro v0 v1 v2 v3 v4 v5 v6 v7 v8 v9 v10 hg hnew hd K hK
          clear hd
          clear hnew
          rw [if_pos (by kernel_rfl)]
          simp only [puts, Act.put, List.setIfInBounds_toArray, List.set_cons_zero, List.set_cons_succ] at hK ⊢
          go_simp
          exact hK _ _ (Below.refl _ _) rfl hg
        refine Each.cons (fun vs W hl => ?_) ?_
        · apply with11 hl
          clear hl vs
          intro v0 v1 v2 v3 v4 v5 v6 v7 v8 v9 v10 hg hnew hd K hK
          clear hd
          clear hnew
          rw [if_pos (by kernel_rfl)]
          simp only [puts, Act.put, List.setIfInBounds_toArray, List.set_cons_zero, List.set_cons_succ] at hK ⊢
          go_simp
          exact hK _ _ (Below.refl _ _) rfl hg
        refine Each.cons (fun vs W hl => ?_) ?_
        · apply with11 hl
          clear hl vs
          intro v0 v1 v2 v3 v4 v5 v6 v7 v8 v9 v10 hg hnew hd K hK
          have d0 : v0 = Value.slice (some ⟨g, off, none⟩) nx lc := hd 0 v0 (by kernel_rfl) rfl
          subst d0
          have d1 : v1 = Value.int IntKind.i64 (j : Int) := hd 1 v1 (by kernel_rfl) rfl
          subst d1
          clear hd
          clear hnew
          rw [if_pos (by kernel_rfl)]
          simp only [puts, Act.put, List.setIfInBounds_toArray, List.set_cons_zero, List.set_cons_succ] at hK ⊢
          go_simp
          exact hK _ _ (Below.refl _ _) rfl hg
        refine Each.cons (fun vs W hl => ?_) ?_
        · apply with11 hl
          clear hl vs
          intro v0 v1 v2 v3 v4 v5 v6 v7 v8 v9 v10 hg hnew hd K hK
          have d2 : v2 = Value.pointer (some ⟨g, off + j * 6, none⟩) := hd 2 v2 (by kernel_rfl) rfl
          subst d2
          clear hd
          clear hnew
          rw [if_pos (by kernel_rfl)]
          simp only [puts, Act.put, List.setIfInBounds_toArray, List.set_cons_zero, List.set_cons_succ] at hK ⊢
          have e0 := (below_cell hg (World.block_lt_of_cell? wr _ D0.out)).trans D0.out
          have e1 := (below_cell hg (World.block_lt_of_cell? wr _ D1.out)).trans D1.out
          have e2 := (below_cell hg (World.block_lt_of_cell? wr _ D2.out)).trans D2.out
          have e3 := (below_cell hg (World.block_lt_of_cell? wr _ D3.out)).trans D3.out
          have e4 := (below_cell hg (World.block_lt_of_cell? wr _ D4.out)).trans D4.out
          have e5 := (below_cell hg (World.block_lt_of_cell? wr _ D5.out)).trans D5.out
          go_simp
          exact hK _ _ (Below.refl _ _) rfl hg
        refine Each.cons (fun vs W hl => ?_) ?_
        · apply with11 hl
          clear hl vs
          intro v0 v1 v2 v3 v4 v5 v6 v7 v8 v9 v10 hg hnew hd K hK
          have d3 : v3 = Value.agg #[Value.string sa, Value.int IntKind.i64 xa, Value.int IntKind.u32 pa, Value.int IntKind.i64 ka, Value.int IntKind.i64 na, Value.string ba] := hd 3 v3 (by kernel_rfl) rfl
          subst d3
          clear hd
          clear hnew
          rw [if_pos (by kernel_rfl)]
          simp only [puts, Act.put, List.setIfInBounds_toArray, List.set_cons_zero, List.set_cons_succ] at hK ⊢
          go_simp
          refine (HK1.out _).mono ?_
          rintro e w' ⟨rfl, hk⟩
          exact hK _ _ hk rfl (below_below hg hk)
        refine Each.cons (fun vs W hl => ?_) ?_
        · apply with11 hl
          clear hl vs
          intro v0 v1 v2 v3 v4 v5 v6 v7 v8 v9 v10 hg hnew hd K hK
          clear hd
          clear hnew
          rw [if_pos (by kernel_rfl)]
          simp only [puts, Act.put, List.setIfInBounds_toArray, List.set_cons_zero, List.set_cons_succ] at hK ⊢
          go_simp
          exact hK _ _ (Below.refl _ _) rfl hg
        refine Each.cons (fun vs W hl => ?_) ?_
        · apply with11 hl
          clear hl vs
          intro v0 v1 v2 v3 v4 v5 v6 v7 v8 v9 v10 hg hnew hd K hK
          clear hd
          clear hnew
          rw [if_pos (by kernel_rfl)]
          simp only [puts, Act.put, List.setIfInBounds_toArray, List.set_cons_zero, List.set_cons_succ] at hK ⊢
          go_simp
          exact hK _ _ (Below.refl _ _) rfl hg
        refine Each.cons (fun vs W hl => ?_) ?_
        · apply with11 hl
          clear hl vs
          intro v0 v1 v2 v3 v4 v5 v6 v7 v8 v9 v10 hg hnew hd K hK
          have d5 : v5 = Value.slice (some ⟨g, off, none⟩) nx lc := hd 5 v5 (by kernel_rfl) rfl
          subst d5
          have d6 : v6 = Value.int IntKind.i64 (j : Int) := hd 6 v6 (by kernel_rfl) rfl
          subst d6
          clear hd
          clear hnew
          rw [if_pos (by kernel_rfl)]
          simp only [puts, Act.put, List.setIfInBounds_toArray, List.set_cons_zero, List.set_cons_succ] at hK ⊢
          go_simp
          exact hK _ _ (Below.refl _ _) rfl hg
        refine Each.cons (fun vs W hl => ?_) ?_
        · apply with11 hl
          clear hl vs
          intro v0 v1 v2 v3 v4 v5 v6 v7 v8 v9 v10 hg hnew hd K hK
          have d7 : v7 = Value.pointer (some ⟨g, off + j * 6, none⟩) := hd 7 v7 (by kernel_rfl) rfl
          subst d7
          clear hd
          clear hnew
          rw [if_pos (by kernel_rfl)]
          simp only [puts, Act.put, List.setIfInBounds_toArray, List.set_cons_zero, List.set_cons_succ] at hK ⊢
          have e0 := (below_cell hg (World.block_lt_of_cell? wr _ D0.out)).trans D0.out
          have e1 := (below_cell hg (World.block_lt_of_cell? wr _ D1.out)).trans D1.out
          have e2 := (below_cell hg (World.block_lt_of_cell? wr _ D2.out)).trans D2.out
          have e3 := (below_cell hg (World.block_lt_of_cell? wr _ D3.out)).trans D3.out
          have e4 := (below_cell hg (World.block_lt_of_cell? wr _ D4.out)).trans D4.out
          have e5 := (below_cell hg (World.block_lt_of_cell? wr _ D5.out)).trans D5.out
          go_simp
          exact hK _ _ (Below.refl _ _) rfl hg
        refine Each.cons (fun vs W hl => ?_) ?_
        · apply with11 hl
          clear hl vs
          intro v0 v1 v2 v3 v4 v5 v6 v7 v8 v9 v10 hg hnew hd K hK
          have d8 : v8 = Value.agg #[Value.string sa, Value.int IntKind.i64 xa, Value.int IntKind.u32 pa, Value.int IntKind.i64 ka, Value.int IntKind.i64 na, Value.string ba] := hd 8 v8 (by kernel_rfl) rfl
          subst d8
          clear hd
          clear hnew
          rw [if_pos (by kernel_rfl)]
          simp only [puts, Act.put, List.setIfInBounds_toArray, List.set_cons_zero, List.set_cons_succ] at hK ⊢
          go_simp
          refine (HK2.out _).mono ?_
          rintro e w' ⟨rfl, hk⟩
          exact hK _ _ hk rfl (below_below hg hk)
        refine Each.cons (fun vs W hl => ?_) ?_
        · apply with11 hl
          clear hl vs
          intro v0 v1 v2 v3 v4 v5 v6 v7 v8 v9 v10 hg hnew hd K hK
          have d4 : v4 = Value.int IntKind.i64 ca := hd 4 v4 (by kernel_rfl) rfl
          subst d4
          have d9 : v9 = Value.int IntKind.i64 ca := hd 9 v9 (by kernel_rfl) rfl
          subst d9
          clear hd
          clear hnew
          rw [if_pos (by kernel_rfl)]
          simp only [puts, Act.put, List.setIfInBounds_toArray, List.set_cons_zero, List.set_cons_succ] at hK ⊢
          go_simp
          exact hK _ _ (Below.refl _ _) (by first | rfl | simp) hg
        exact Each.nil
      · intro vs W hl
        apply with11 hl
        clear hl vs
        intro v0 v1 v2 v3 v4 v5 v6 v7 v8 v9 v10 hg hall
        have d0 : v0 = Value.slice (some ⟨g, off, none⟩) nx lc := hall 0 v0 rfl
        subst d0
        have d1 : v1 = Value.int IntKind.i64 (j : Int) := hall 1 v1 rfl
        subst d1
        have d2 : v2 = Value.pointer (some ⟨g, off + j * 6, none⟩) := hall 2 v2 rfl
        subst d2
        have d3 : v3 = Value.agg #[Value.string sa, Value.int IntKind.i64 xa, Value.int IntKind.u32 pa, Value.int IntKind.i64 ka, Value.int IntKind.i64 na, Value.string ba] := hall 3 v3 rfl
        subst d3
        have d4 : v4 = Value.int IntKind.i64 ca := hall 4 v4 rfl
        subst d4
        have d5 : v5 = Value.slice (some ⟨g, off, none⟩) nx lc := hall 5 v5 rfl
        subst d5
        have d6 : v6 = Value.int IntKind.i64 (j : Int) := hall 6 v6 rfl
        subst d6
        have d7 : v7 = Value.pointer (some ⟨g, off + j * 6, none⟩) := hall 7 v7 rfl
        subst d7
        have d8 : v8 = Value.agg #[Value.string sa, Value.int IntKind.i64 xa, Value.int IntKind.u32 pa, Value.int IntKind.i64 ka, Value.int IntKind.i64 na, Value.string ba] := hall 8 v8 rfl
        subst d8
        have d9 : v9 = Value.int IntKind.i64 ca := hall 9 v9 rfl
        subst d9
        have d10 : v10 = Value.bool false := hall 10 v10 rfl
        subst d10
        clear hall
        simp only [puts, Act.put, List.setIfInBounds_toArray, List.set_cons_zero, List.set_cons_succ, List.take_succ_cons, List.take_zero, List.drop_succ_cons, List.drop_zero]
        have BR := hd (below_below HB.out hg)
        clear hg
        go_wp2_with fail
        go_roundw
        case rel => exact ⟨j + 1, by have := HJ.out; omega, by go_num, BR.out⟩
        case measure => simp [intOf]; omega
    · have hnl : ¬ (j : Int) < (nx : Int) := by omega
      have B7 := hd (below_below B6.out HB.out)
      have V1g := hd (V1f.out.keep HB.out)
      have V2g := hd (V2f.out.keep HB.out)
      have IN7 := hd (IN6.out.keep HB.out)
      have T7 := hd (T6.out.keep HB.out)
      have S7 := hd (S6.out.keep HB.out)
      have U7 := hd (U6.out.keep HB.out)
      have R7 := hd (R6.out.keep HB.out)
      clear V1f V2f B6 IN6 T6 S6 U6 R6 HB hj
      go_wp2_with fail
      refine wp_region_each 42 (fun W W' => Below W.heap.size W W') (fun i v W => match i with | 0 => v = Value.agg #[Value.int IntKind.i64 k, Value.int IntKind.i64 n, Value.string s] | 1 => v = Value.int IntKind.i64 ev | 2 => v = Value.agg #[Value.int IntKind.i64 k, Value.int IntKind.i64 n, Value.string s] | 3 => v = Value.int IntKind.i64 ev | 4 => v = Value.bool true | 5 => v = Value.bool true | 6 => v = Value.agg #[Value.int IntKind.i64 k, Value.int IntKind.i64 n, Value.string s] | 7 => v = Value.agg #[Value.int IntKind.i64 k2, Value.int IntKind.i64 n2, Value.string s2] | 8 => v = Value.int IntKind.i64 cv | 9 => v = Value.agg #[Value.int IntKind.i64 k, Value.int IntKind.i64 n, Value.string s] | 10 => v = Value.agg #[Value.int IntKind.i64 k2, Value.int IntKind.i64 n2, Value.string s2] | 11 => v = Value.int IntKind.i64 cv | 12 => v = Value.bool true | 13 => v = Value.bool true | 14 => v = Value.bool true | 15 => v = Value.slice p1 q1 c1 | 16 => v = Value.slice p2 q2 c2 | 17 => v = Value.bool true | 18 => v = Value.bool true | 19 => v = Value.bool true | 20 => v = Value.int IntKind.i64 ev | 21 => v = Value.int IntKind.i64 ev | 22 => v = Value.bool true | 23 => v = Value.bool true | 24 => v = Value.bool true | 25 => v = Value.slice p3 q3 c3 | 26 => v = Value.slice p4 q4 c4 | 27 => v = Value.bool true | 28 => v = Value.bool true | 29 => v = Value.bool true | 30 => v = Value.int IntKind.i64 eu | 31 => v = Value.int IntKind.i64 eu | 32 => v = Value.bool true | 33 => v = Value.bool true | 34 => v = Value.bool true | 35 => v = Value.slice ix nx ic | 36 => v = Value.slice lx nx lc | 37 => v = Value.bool true | 38 => v = Value.bool true | 39 => v = Value.bool true | 40 => v = Value.bool true | 41 => v = Value.bool true | _ => True) (fun vs W => Below wr.heap.size wr W) (by kernel_rfl) (by kernel_rfl) (fun j v W W' hE h => by
          match j with
          | 0 => exact h
          | 1 => exact h
          | 2 => exact h
          | 3 => exact h
          | 4 => exact h
          | 5 => exact h
          | 6 => exact h
          | 7 => exact h
          | 8 => exact h
          | 9 => exact h
          | 10 => exact h
          | 11 => exact h
          | 12 => exact h
          | 13 => exact h
          | 14 => exact h
          | 15 => exact h
          | 16 => exact h
          | 17 => exact h
          | 18 => exact h
          | 19 => exact h
          | 20 => exact h
          | 21 => exact h
          | 22 => exact h
          | 23 => exact h
          | 24 => exact h
          | 25 => exact h
          | 26 => exact h
          | 27 => exact h
          | 28 => exact h
          | 29 => exact h
          | 30 => exact h
          | 31 => exact h
          | 32 => exact h
          | 33 => exact h
          | 34 => exact h
          | 35 => exact h
          | 36 => exact h
          | 37 => exact h
          | 38 => exact h
          | 39 => exact h
          | 40 => exact h
          | 41 => exact h
          | _ + 42 => trivial) (by exact (Below.refl _ _).drew) ?_ ?_
      · simp only [List.take_succ_cons, List.take_zero]
        refine Each.cons (fun vs W hl => ?_) ?_
        · apply with42 hl
          clear hl vs
          intro v0 v1 v2 v3 v4 v5 v6 v7 v8 v9 v10 v11 v12 v13 v14 v15 v16 v17 v18 v19 v20 v21 v22 v23 v24 v25 v26 v27 v28 v29 v30 v31 v32 v33 v34 v35 v36 v37 v38 v39 v40 v41 hg hnew hd K hK
          clear hd
          clear hnew
          rw [if_pos (by kernel_rfl)]
          simp only [puts, Act.put, List.setIfInBounds_toArray, List.set_cons_zero, List.set_cons_succ] at hK ⊢
          have c := V1g.out.keep hg
          have c0 := c.cell 0
          have c1 := c.cell 1
          have c2 := c.cell 2
          simp at c0 c1 c2
          go_simp
          exact hK _ _ (Below.refl _ _) rfl hg
        refine Each.cons (fun vs W hl => ?_) ?_
        · apply with42 hl
          clear hl vs
          intro v0 v1 v2 v3 v4 v5 v6 v7 v8 v9 v10 v11 v12 v13 v14 v15 v16 v17 v18 v19 v20 v21 v22 v23 v24 v25 v26 v27 v28 v29 v30 v31 v32 v33 v34 v35 v36 v37 v38 v39 v40 v41 hg hnew hd K hK
          have d0 : v0 = Value.agg #[Value.int IntKind.i64 k, Value.int IntKind.i64 n, Value.string s] := hd 0 v0 (by kernel_rfl) rfl
          subst d0
          clear hd
          clear hnew
          rw [if_pos (by kernel_rfl)]
          simp only [puts, Act.put, List.setIfInBounds_toArray, List.set_cons_zero, List.set_cons_succ] at hK ⊢
          go_simp
          refine (HC1.out _).mono ?_
          rintro e w' ⟨rfl, hk⟩
          exact hK _ _ hk rfl (below_below hg hk)
        refine Each.cons (fun vs W hl => ?_) ?_
        · apply with42 hl
          clear hl vs
          intro v0 v1 v2 v3 v4 v5 v6 v7 v8 v9 v10 v11 v12 v13 v14 v15 v16 v17 v18 v19 v20 v21 v22 v23 v24 v25 v26 v27 v28 v29 v30 v31 v32 v33 v34 v35 v36 v37 v38 v39 v40 v41 hg hnew hd K hK
          clear hd
          clear hnew
          rw [if_pos (by kernel_rfl)]
          simp only [puts, Act.put, List.setIfInBounds_toArray, List.set_cons_zero, List.set_cons_succ] at hK ⊢
          have c := V1g.out.keep hg
          have c0 := c.cell 0
          have c1 := c.cell 1
          have c2 := c.cell 2
          simp at c0 c1 c2
          go_simp
          exact hK _ _ (Below.refl _ _) rfl hg
        refine Each.cons (fun vs W hl => ?_) ?_
        · apply with42 hl
          clear hl vs
          intro v0 v1 v2 v3 v4 v5 v6 v7 v8 v9 v10 v11 v12 v13 v14 v15 v16 v17 v18 v19 v20 v21 v22 v23 v24 v25 v26 v27 v28 v29 v30 v31 v32 v33 v34 v35 v36 v37 v38 v39 v40 v41 hg hnew hd K hK
          have d2 : v2 = Value.agg #[Value.int IntKind.i64 k, Value.int IntKind.i64 n, Value.string s] := hd 2 v2 (by kernel_rfl) rfl
          subst d2
          clear hd
          clear hnew
          rw [if_pos (by kernel_rfl)]
          simp only [puts, Act.put, List.setIfInBounds_toArray, List.set_cons_zero, List.set_cons_succ] at hK ⊢
          go_simp
          refine (HC2.out _).mono ?_
          rintro e w' ⟨rfl, hk⟩
          exact hK _ _ hk rfl (below_below hg hk)
        refine Each.cons (fun vs W hl => ?_) ?_
        · apply with42 hl
          clear hl vs
          intro v0 v1 v2 v3 v4 v5 v6 v7 v8 v9 v10 v11 v12 v13 v14 v15 v16 v17 v18 v19 v20 v21 v22 v23 v24 v25 v26 v27 v28 v29 v30 v31 v32 v33 v34 v35 v36 v37 v38 v39 v40 v41 hg hnew hd K hK
          have d1 : v1 = Value.int IntKind.i64 ev := hd 1 v1 (by kernel_rfl) rfl
          subst d1
          have d3 : v3 = Value.int IntKind.i64 ev := hd 3 v3 (by kernel_rfl) rfl
          subst d3
          clear hd
          clear hnew
          rw [if_pos (by kernel_rfl)]
          simp only [puts, Act.put, List.setIfInBounds_toArray, List.set_cons_zero, List.set_cons_succ] at hK ⊢
          go_simp
          exact hK _ _ (Below.refl _ _) (by first | rfl | simp) hg
        refine Each.cons (fun vs W hl => ?_) ?_
        · apply with42 hl
          clear hl vs
          intro v0 v1 v2 v3 v4 v5 v6 v7 v8 v9 v10 v11 v12 v13 v14 v15 v16 v17 v18 v19 v20 v21 v22 v23 v24 v25 v26 v27 v28 v29 v30 v31 v32 v33 v34 v35 v36 v37 v38 v39 v40 v41 hg hnew hd K hK
          have d4 : v4 = Value.bool true := hd 4 v4 (by kernel_rfl) rfl
          subst d4
          clear hd
          clear hnew
          rw [if_pos (by kernel_rfl)]
          simp only [puts, Act.put, List.setIfInBounds_toArray, List.set_cons_zero, List.set_cons_succ] at hK ⊢
          go_simp
          exact hK _ _ (Below.refl _ _) rfl hg
        refine Each.cons (fun vs W hl => ?_) ?_
        · apply with42 hl
          clear hl vs
          intro v0 v1 v2 v3 v4 v5 v6 v7 v8 v9 v10 v11 v12 v13 v14 v15 v16 v17 v18 v19 v20 v21 v22 v23 v24 v25 v26 v27 v28 v29 v30 v31 v32 v33 v34 v35 v36 v37 v38 v39 v40 v41 hg hnew hd K hK
          have d5 : v5 = Value.bool true := hd 5 v5 (by kernel_rfl) rfl
          subst d5
          clear hd
          clear hnew
          rw [if_pos (by kernel_rfl)]
          simp only [puts, Act.put, List.setIfInBounds_toArray, List.set_cons_zero, List.set_cons_succ] at hK ⊢
          have c := V1g.out.keep hg
          have c0 := c.cell 0
          have c1 := c.cell 1
          have c2 := c.cell 2
          simp at c0 c1 c2
          go_simp
          exact hK _ _ (Below.refl _ _) rfl hg
        refine Each.cons (fun vs W hl => ?_) ?_
        · apply with42 hl
          clear hl vs
          intro v0 v1 v2 v3 v4 v5 v6 v7 v8 v9 v10 v11 v12 v13 v14 v15 v16 v17 v18 v19 v20 v21 v22 v23 v24 v25 v26 v27 v28 v29 v30 v31 v32 v33 v34 v35 v36 v37 v38 v39 v40 v41 hg hnew hd K hK
          have d5 : v5 = Value.bool true := hd 5 v5 (by kernel_rfl) rfl
          subst d5
          clear hd
          clear hnew
          rw [if_pos (by kernel_rfl)]
          simp only [puts, Act.put, List.setIfInBounds_toArray, List.set_cons_zero, List.set_cons_succ] at hK ⊢
          have c := V2g.out.keep hg
          have c0 := c.cell 0
          have c1 := c.cell 1
          have c2 := c.cell 2
          simp at c0 c1 c2
          go_simp
          exact hK _ _ (Below.refl _ _) rfl hg
        refine Each.cons (fun vs W hl => ?_) ?_
        · apply with42 hl
          clear hl vs
          intro v0 v1 v2 v3 v4 v5 v6 v7 v8 v9 v10 v11 v12 v13 v14 v15 v16 v17 v18 v19 v20 v21 v22 v23 v24 v25 v26 v27 v28 v29 v30 v31 v32 v33 v34 v35 v36 v37 v38 v39 v40 v41 hg hnew hd K hK
          have d5 : v5 = Value.bool true := hd 5 v5 (by kernel_rfl) rfl
          subst d5
          have d6 : v6 = Value.agg #[Value.int IntKind.i64 k, Value.int IntKind.i64 n, Value.string s] := hd 6 v6 (by kernel_rfl) rfl
          subst d6
          have d7 : v7 = Value.agg #[Value.int IntKind.i64 k2, Value.int IntKind.i64 n2, Value.string s2] := hd 7 v7 (by kernel_rfl) rfl
          subst d7
          clear hd
          clear hnew
          rw [if_pos (by kernel_rfl)]
          simp only [puts, Act.put, List.setIfInBounds_toArray, List.set_cons_zero, List.set_cons_succ] at hK ⊢
          go_simp
          refine (HM1.out _).mono ?_
          rintro e w' ⟨rfl, hk⟩
          exact hK _ _ hk rfl (below_below hg hk)
        refine Each.cons (fun vs W hl => ?_) ?_
        · apply with42 hl
          clear hl vs
          intro v0 v1 v2 v3 v4 v5 v6 v7 v8 v9 v10 v11 v12 v13 v14 v15 v16 v17 v18 v19 v20 v21 v22 v23 v24 v25 v26 v27 v28 v29 v30 v31 v32 v33 v34 v35 v36 v37 v38 v39 v40 v41 hg hnew hd K hK
          have d5 : v5 = Value.bool true := hd 5 v5 (by kernel_rfl) rfl
          subst d5
          clear hd
          clear hnew
          rw [if_pos (by kernel_rfl)]
          simp only [puts, Act.put, List.setIfInBounds_toArray, List.set_cons_zero, List.set_cons_succ] at hK ⊢
          have c := V1g.out.keep hg
          have c0 := c.cell 0
          have c1 := c.cell 1
          have c2 := c.cell 2
          simp at c0 c1 c2
          go_simp
          exact hK _ _ (Below.refl _ _) rfl hg
        refine Each.cons (fun vs W hl => ?_) ?_
        · apply with42 hl
          clear hl vs
          intro v0 v1 v2 v3 v4 v5 v6 v7 v8 v9 v10 v11 v12 v13 v14 v15 v16 v17 v18 v19 v20 v21 v22 v23 v24 v25 v26 v27 v28 v29 v30 v31 v32 v33 v34 v35 v36 v37 v38 v39 v40 v41 hg hnew hd K hK
          have d5 : v5 = Value.bool true := hd 5 v5 (by kernel_rfl) rfl
          subst d5
          clear hd
          clear hnew
          rw [if_pos (by kernel_rfl)]
          simp only [puts, Act.put, List.setIfInBounds_toArray, List.set_cons_zero, List.set_cons_succ] at hK ⊢
          have c := V2g.out.keep hg
          have c0 := c.cell 0
          have c1 := c.cell 1
          have c2 := c.cell 2
          simp at c0 c1 c2
          go_simp
          exact hK _ _ (Below.refl _ _) rfl hg
        refine Each.cons (fun vs W hl => ?_) ?_
        · apply with42 hl
          clear hl vs
          intro v0 v1 v2 v3 v4 v5 v6 v7 v8 v9 v10 v11 v12 v13 v14 v15 v16 v17 v18 v19 v20 v21 v22 v23 v24 v25 v26 v27 v28 v29 v30 v31 v32 v33 v34 v35 v36 v37 v38 v39 v40 v41 hg hnew hd K hK
          have d5 : v5 = Value.bool true := hd 5 v5 (by kernel_rfl) rfl
          subst d5
          have d9 : v9 = Value.agg #[Value.int IntKind.i64 k, Value.int IntKind.i64 n, Value.string s] := hd 9 v9 (by kernel_rfl) rfl
          subst d9
          have d10 : v10 = Value.agg #[Value.int IntKind.i64 k2, Value.int IntKind.i64 n2, Value.string s2] := hd 10 v10 (by kernel_rfl) rfl
          subst d10
          clear hd
          clear hnew
          rw [if_pos (by kernel_rfl)]
          simp only [puts, Act.put, List.setIfInBounds_toArray, List.set_cons_zero, List.set_cons_succ] at hK ⊢
          go_simp
          refine (HM2.out _).mono ?_
          rintro e w' ⟨rfl, hk⟩
          exact hK _ _ hk rfl (below_below hg hk)
        refine Each.cons (fun vs W hl => ?_) ?_
        · apply with42 hl
          clear hl vs
          intro v0 v1 v2 v3 v4 v5 v6 v7 v8 v9 v10 v11 v12 v13 v14 v15 v16 v17 v18 v19 v20 v21 v22 v23 v24 v25 v26 v27 v28 v29 v30 v31 v32 v33 v34 v35 v36 v37 v38 v39 v40 v41 hg hnew hd K hK
          have d5 : v5 = Value.bool true := hd 5 v5 (by kernel_rfl) rfl
          subst d5
          have d8 : v8 = Value.int IntKind.i64 cv := hd 8 v8 (by kernel_rfl) rfl
          subst d8
          have d11 : v11 = Value.int IntKind.i64 cv := hd 11 v11 (by kernel_rfl) rfl
          subst d11
          clear hd
          clear hnew
          rw [if_pos (by kernel_rfl)]
          simp only [puts, Act.put, List.setIfInBounds_toArray, List.set_cons_zero, List.set_cons_succ] at hK ⊢
          go_simp
          exact hK _ _ (Below.refl _ _) (by first | rfl | simp) hg
        refine Each.cons (fun vs W hl => ?_) ?_
        · apply with42 hl
          clear hl vs
          intro v0 v1 v2 v3 v4 v5 v6 v7 v8 v9 v10 v11 v12 v13 v14 v15 v16 v17 v18 v19 v20 v21 v22 v23 v24 v25 v26 v27 v28 v29 v30 v31 v32 v33 v34 v35 v36 v37 v38 v39 v40 v41 hg hnew hd K hK
          have d5 : v5 = Value.bool true := hd 5 v5 (by kernel_rfl) rfl
          subst d5
          have d12 : v12 = Value.bool true := hd 12 v12 (by kernel_rfl) rfl
          subst d12
          clear hd
          clear hnew
          rw [if_pos (by kernel_rfl)]
          simp only [puts, Act.put, List.setIfInBounds_toArray, List.set_cons_zero, List.set_cons_succ] at hK ⊢
          go_simp
          exact hK _ _ (Below.refl _ _) rfl hg
        refine Each.cons (fun vs W hl => ?_) ?_
        · apply with42 hl
          clear hl vs
          intro v0 v1 v2 v3 v4 v5 v6 v7 v8 v9 v10 v11 v12 v13 v14 v15 v16 v17 v18 v19 v20 v21 v22 v23 v24 v25 v26 v27 v28 v29 v30 v31 v32 v33 v34 v35 v36 v37 v38 v39 v40 v41 hg hnew hd K hK
          have d13 : v13 = Value.bool true := hd 13 v13 (by kernel_rfl) rfl
          subst d13
          clear hd
          clear hnew
          rw [if_pos (by kernel_rfl)]
          simp only [puts, Act.put, List.setIfInBounds_toArray, List.set_cons_zero, List.set_cons_succ] at hK ⊢
          go_simp
          exact hK _ _ (Below.refl _ _) rfl hg
        refine Each.cons (fun vs W hl => ?_) ?_
        · apply with42 hl
          clear hl vs
          intro v0 v1 v2 v3 v4 v5 v6 v7 v8 v9 v10 v11 v12 v13 v14 v15 v16 v17 v18 v19 v20 v21 v22 v23 v24 v25 v26 v27 v28 v29 v30 v31 v32 v33 v34 v35 v36 v37 v38 v39 v40 v41 hg hnew hd K hK
          have d14 : v14 = Value.bool true := hd 14 v14 (by kernel_rfl) rfl
          subst d14
          clear hd
          clear hnew
          rw [if_pos (by kernel_rfl)]
          simp only [puts, Act.put, List.setIfInBounds_toArray, List.set_cons_zero, List.set_cons_succ] at hK ⊢
          go_simp
          exact hK _ _ (Below.refl _ _) rfl hg
        refine Each.cons (fun vs W hl => ?_) ?_
        · apply with42 hl
          clear hl vs
          intro v0 v1 v2 v3 v4 v5 v6 v7 v8 v9 v10 v11 v12 v13 v14 v15 v16 v17 v18 v19 v20 v21 v22 v23 v24 v25 v26 v27 v28 v29 v30 v31 v32 v33 v34 v35 v36 v37 v38 v39 v40 v41 hg hnew hd K hK
          have d14 : v14 = Value.bool true := hd 14 v14 (by kernel_rfl) rfl
          subst d14
          clear hd
          clear hnew
          rw [if_pos (by kernel_rfl)]
          simp only [puts, Act.put, List.setIfInBounds_toArray, List.set_cons_zero, List.set_cons_succ] at hK ⊢
          go_simp
          exact hK _ _ (Below.refl _ _) rfl hg
        refine Each.cons (fun vs W hl => ?_) ?_
        · apply with42 hl
          clear hl vs
          intro v0 v1 v2 v3 v4 v5 v6 v7 v8 v9 v10 v11 v12 v13 v14 v15 v16 v17 v18 v19 v20 v21 v22 v23 v24 v25 v26 v27 v28 v29 v30 v31 v32 v33 v34 v35 v36 v37 v38 v39 v40 v41 hg hnew hd K hK
          have d14 : v14 = Value.bool true := hd 14 v14 (by kernel_rfl) rfl
          subst d14
          have d15 : v15 = Value.slice p1 q1 c1 := hd 15 v15 (by kernel_rfl) rfl
          subst d15
          have d16 : v16 = Value.slice p2 q2 c2 := hd 16 v16 (by kernel_rfl) rfl
          subst d16
          clear hd
          clear hnew
          rw [if_pos (by kernel_rfl)]
          simp only [puts, Act.put, List.setIfInBounds_toArray, List.set_cons_zero, List.set_cons_succ] at hK ⊢
          go_simp
          refine (eq_vx (T7.out.keep hg).bs (S7.out.keep hg).all).mono ?_
          rintro e w' ⟨rfl, hk⟩
          exact hK _ _ hk rfl (below_below hg hk)
        refine Each.cons (fun vs W hl => ?_) ?_
        · apply with42 hl
          clear hl vs
          intro v0 v1 v2 v3 v4 v5 v6 v7 v8 v9 v10 v11 v12 v13 v14 v15 v16 v17 v18 v19 v20 v21 v22 v23 v24 v25 v26 v27 v28 v29 v30 v31 v32 v33 v34 v35 v36 v37 v38 v39 v40 v41 hg hnew hd K hK
          have d14 : v14 = Value.bool true := hd 14 v14 (by kernel_rfl) rfl
          subst d14
          have d17 : v17 = Value.bool true := hd 17 v17 (by kernel_rfl) rfl
          subst d17
          clear hd
          clear hnew
          rw [if_pos (by kernel_rfl)]
          simp only [puts, Act.put, List.setIfInBounds_toArray, List.set_cons_zero, List.set_cons_succ] at hK ⊢
          go_simp
          exact hK _ _ (Below.refl _ _) rfl hg
        refine Each.cons (fun vs W hl => ?_) ?_
        · apply with42 hl
          clear hl vs
          intro v0 v1 v2 v3 v4 v5 v6 v7 v8 v9 v10 v11 v12 v13 v14 v15 v16 v17 v18 v19 v20 v21 v22 v23 v24 v25 v26 v27 v28 v29 v30 v31 v32 v33 v34 v35 v36 v37 v38 v39 v40 v41 hg hnew hd K hK
          have d18 : v18 = Value.bool true := hd 18 v18 (by kernel_rfl) rfl
          subst d18
          clear hd
          clear hnew
          rw [if_pos (by kernel_rfl)]
          simp only [puts, Act.put, List.setIfInBounds_toArray, List.set_cons_zero, List.set_cons_succ] at hK ⊢
          go_simp
          exact hK _ _ (Below.refl _ _) rfl hg
        refine Each.cons (fun vs W hl => ?_) ?_
        · apply with42 hl
          clear hl vs
          intro v0 v1 v2 v3 v4 v5 v6 v7 v8 v9 v10 v11 v12 v13 v14 v15 v16 v17 v18 v19 v20 v21 v22 v23 v24 v25 v26 v27 v28 v29 v30 v31 v32 v33 v34 v35 v36 v37 v38 v39 v40 v41 hg hnew hd K hK
          have d19 : v19 = Value.bool true := hd 19 v19 (by kernel_rfl) rfl
          subst d19
          clear hd
          clear hnew
          rw [if_pos (by kernel_rfl)]
          simp only [puts, Act.put, List.setIfInBounds_toArray, List.set_cons_zero, List.set_cons_succ] at hK ⊢
          go_simp
          exact hK _ _ (Below.refl _ _) rfl hg
        refine Each.cons (fun vs W hl => ?_) ?_
        · apply with42 hl
          clear hl vs
          intro v0 v1 v2 v3 v4 v5 v6 v7 v8 v9 v10 v11 v12 v13 v14 v15 v16 v17 v18 v19 v20 v21 v22 v23 v24 v25 v26 v27 v28 v29 v30 v31 v32 v33 v34 v35 v36 v37 v38 v39 v40 v41 hg hnew hd K hK
          have d19 : v19 = Value.bool true := hd 19 v19 (by kernel_rfl) rfl
          subst d19
          clear hd
          clear hnew
          rw [if_pos (by kernel_rfl)]
          simp only [puts, Act.put, List.setIfInBounds_toArray, List.set_cons_zero, List.set_cons_succ] at hK ⊢
          go_simp
          exact hK _ _ (Below.refl _ _) rfl hg
        refine Each.cons (fun vs W hl => ?_) ?_
        · apply with42 hl
          clear hl vs
          intro v0 v1 v2 v3 v4 v5 v6 v7 v8 v9 v10 v11 v12 v13 v14 v15 v16 v17 v18 v19 v20 v21 v22 v23 v24 v25 v26 v27 v28 v29 v30 v31 v32 v33 v34 v35 v36 v37 v38 v39 v40 v41 hg hnew hd K hK
          have d19 : v19 = Value.bool true := hd 19 v19 (by kernel_rfl) rfl
          subst d19
          have d20 : v20 = Value.int IntKind.i64 ev := hd 20 v20 (by kernel_rfl) rfl
          subst d20
          have d21 : v21 = Value.int IntKind.i64 ev := hd 21 v21 (by kernel_rfl) rfl
          subst d21
          clear hd
          clear hnew
          rw [if_pos (by kernel_rfl)]
          simp only [puts, Act.put, List.setIfInBounds_toArray, List.set_cons_zero, List.set_cons_succ] at hK ⊢
          go_simp
          exact hK _ _ (Below.refl _ _) (by first | rfl | simp) hg
        refine Each.cons (fun vs W hl => ?_) ?_
        · apply with42 hl
          clear hl vs
          intro v0 v1 v2 v3 v4 v5 v6 v7 v8 v9 v10 v11 v12 v13 v14 v15 v16 v17 v18 v19 v20 v21 v22 v23 v24 v25 v26 v27 v28 v29 v30 v31 v32 v33 v34 v35 v36 v37 v38 v39 v40 v41 hg hnew hd K hK
          have d19 : v19 = Value.bool true := hd 19 v19 (by kernel_rfl) rfl
          subst d19
          have d22 : v22 = Value.bool true := hd 22 v22 (by kernel_rfl) rfl
          subst d22
          clear hd
          clear hnew
          rw [if_pos (by kernel_rfl)]
          simp only [puts, Act.put, List.setIfInBounds_toArray, List.set_cons_zero, List.set_cons_succ] at hK ⊢
          go_simp
          exact hK _ _ (Below.refl _ _) rfl hg
        refine Each.cons (fun vs W hl => ?_) ?_
        · apply with42 hl
          clear hl vs
          intro v0 v1 v2 v3 v4 v5 v6 v7 v8 v9 v10 v11 v12 v13 v14 v15 v16 v17 v18 v19 v20 v21 v22 v23 v24 v25 v26 v27 v28 v29 v30 v31 v32 v33 v34 v35 v36 v37 v38 v39 v40 v41 hg hnew hd K hK
          have d23 : v23 = Value.bool true := hd 23 v23 (by kernel_rfl) rfl
          subst d23
          clear hd
          clear hnew
          rw [if_pos (by kernel_rfl)]
          simp only [puts, Act.put, List.setIfInBounds_toArray, List.set_cons_zero, List.set_cons_succ] at hK ⊢
          go_simp
          exact hK _ _ (Below.refl _ _) rfl hg
        refine Each.cons (fun vs W hl => ?_) ?_
        · apply with42 hl
          clear hl vs
          intro v0 v1 v2 v3 v4 v5 v6 v7 v8 v9 v10 v11 v12 v13 v14 v15 v16 v17 v18 v19 v20 v21 v22 v23 v24 v25 v26 v27 v28 v29 v30 v31 v32 v33 v34 v35 v36 v37 v38 v39 v40 v41 hg hnew hd K hK
          have d24 : v24 = Value.bool true := hd 24 v24 (by kernel_rfl) rfl
          subst d24
          clear hd
          clear hnew
          rw [if_pos (by kernel_rfl)]
          simp only [puts, Act.put, List.setIfInBounds_toArray, List.set_cons_zero, List.set_cons_succ] at hK ⊢
          go_simp
          exact hK _ _ (Below.refl _ _) rfl hg
        refine Each.cons (fun vs W hl => ?_) ?_
        · apply with42 hl
          clear hl vs
          intro v0 v1 v2 v3 v4 v5 v6 v7 v8 v9 v10 v11 v12 v13 v14 v15 v16 v17 v18 v19 v20 v21 v22 v23 v24 v25 v26 v27 v28 v29 v30 v31 v32 v33 v34 v35 v36 v37 v38 v39 v40 v41 hg hnew hd K hK
          have d24 : v24 = Value.bool true := hd 24 v24 (by kernel_rfl) rfl
          subst d24
          clear hd
          clear hnew
          rw [if_pos (by kernel_rfl)]
          simp only [puts, Act.put, List.setIfInBounds_toArray, List.set_cons_zero, List.set_cons_succ] at hK ⊢
          go_simp
          exact hK _ _ (Below.refl _ _) rfl hg
        refine Each.cons (fun vs W hl => ?_) ?_
        · apply with42 hl
          clear hl vs
          intro v0 v1 v2 v3 v4 v5 v6 v7 v8 v9 v10 v11 v12 v13 v14 v15 v16 v17 v18 v19 v20 v21 v22 v23 v24 v25 v26 v27 v28 v29 v30 v31 v32 v33 v34 v35 v36 v37 v38 v39 v40 v41 hg hnew hd K hK
          have d24 : v24 = Value.bool true := hd 24 v24 (by kernel_rfl) rfl
          subst d24
          have d25 : v25 = Value.slice p3 q3 c3 := hd 25 v25 (by kernel_rfl) rfl
          subst d25
          have d26 : v26 = Value.slice p4 q4 c4 := hd 26 v26 (by kernel_rfl) rfl
          subst d26
          clear hd
          clear hnew
          rw [if_pos (by kernel_rfl)]
          simp only [puts, Act.put, List.setIfInBounds_toArray, List.set_cons_zero, List.set_cons_succ] at hK ⊢
          go_simp
          refine (eq_vx (U7.out.keep hg).bs (R7.out.keep hg).all).mono ?_
          rintro e w' ⟨rfl, hk⟩
          exact hK _ _ hk rfl (below_below hg hk)
        refine Each.cons (fun vs W hl => ?_) ?_
        · apply with42 hl
          clear hl vs
          intro v0 v1 v2 v3 v4 v5 v6 v7 v8 v9 v10 v11 v12 v13 v14 v15 v16 v17 v18 v19 v20 v21 v22 v23 v24 v25 v26 v27 v28 v29 v30 v31 v32 v33 v34 v35 v36 v37 v38 v39 v40 v41 hg hnew hd K hK
          have d24 : v24 = Value.bool true := hd 24 v24 (by kernel_rfl) rfl
          subst d24
          have d27 : v27 = Value.bool true := hd 27 v27 (by kernel_rfl) rfl
          subst d27
          clear hd
          clear hnew
          rw [if_pos (by kernel_rfl)]
          simp only [puts, Act.put, List.setIfInBounds_toArray, List.set_cons_zero, List.set_cons_succ] at hK ⊢
          go_simp
          exact hK _ _ (Below.refl _ _) rfl hg
        refine Each.cons (fun vs W hl => ?_) ?_
        · apply with42 hl
          clear hl vs
          intro v0 v1 v2 v3 v4 v5 v6 v7 v8 v9 v10 v11 v12 v13 v14 v15 v16 v17 v18 v19 v20 v21 v22 v23 v24 v25 v26 v27 v28 v29 v30 v31 v32 v33 v34 v35 v36 v37 v38 v39 v40 v41 hg hnew hd K hK
          have d28 : v28 = Value.bool true := hd 28 v28 (by kernel_rfl) rfl
          subst d28
          clear hd
          clear hnew
          rw [if_pos (by kernel_rfl)]
          simp only [puts, Act.put, List.setIfInBounds_toArray, List.set_cons_zero, List.set_cons_succ] at hK ⊢
          go_simp
          exact hK _ _ (Below.refl _ _) rfl hg
        refine Each.cons (fun vs W hl => ?_) ?_
        · apply with42 hl
          clear hl vs
          intro v0 v1 v2 v3 v4 v5 v6 v7 v8 v9 v10 v11 v12 v13 v14 v15 v16 v17 v18 v19 v20 v21 v22 v23 v24 v25 v26 v27 v28 v29 v30 v31 v32 v33 v34 v35 v36 v37 v38 v39 v40 v41 hg hnew hd K hK
          have d29 : v29 = Value.bool true := hd 29 v29 (by kernel_rfl) rfl
          subst d29
          clear hd
          clear hnew
          rw [if_pos (by kernel_rfl)]
          simp only [puts, Act.put, List.setIfInBounds_toArray, List.set_cons_zero, List.set_cons_succ] at hK ⊢
          go_simp
          exact hK _ _ (Below.refl _ _) rfl hg
        refine Each.cons (fun vs W hl => ?_) ?_
        · apply with42 hl
          clear hl vs
          intro v0 v1 v2 v3 v4 v5 v6 v7 v8 v9 v10 v11 v12 v13 v14 v15 v16 v17 v18 v19 v20 v21 v22 v23 v24 v25 v26 v27 v28 v29 v30 v31 v32 v33 v34 v35 v36 v37 v38 v39 v40 v41 hg hnew hd K hK
          have d29 : v29 = Value.bool true := hd 29 v29 (by kernel_rfl) rfl
          subst d29
          clear hd
          clear hnew
          rw [if_pos (by kernel_rfl)]
          simp only [puts, Act.put, List.setIfInBounds_toArray, List.set_cons_zero, List.set_cons_succ] at hK ⊢
          go_simp
          exact hK _ _ (Below.refl _ _) rfl hg
        refine Each.cons (fun vs W hl => ?_) ?_
        · apply with42 hl
          clear hl vs
          intro v0 v1 v2 v3 v4 v5 v6 v7 v8 v9 v10 v11 v12 v13 v14 v15 v16 v17 v18 v19 v20 v21 v22 v23 v24 v25 v26 v27 v28 v29 v30 v31 v32 v33 v34 v35 v36 v37 v38 v39 v40 v41 hg hnew hd K hK
          have d29 : v29 = Value.bool true := hd 29 v29 (by kernel_rfl) rfl
          subst d29
          have d30 : v30 = Value.int IntKind.i64 eu := hd 30 v30 (by kernel_rfl) rfl
          subst d30
          have d31 : v31 = Value.int IntKind.i64 eu := hd 31 v31 (by kernel_rfl) rfl
          subst d31
          clear hd
          clear hnew
          rw [if_pos (by kernel_rfl)]
          simp only [puts, Act.put, List.setIfInBounds_toArray, List.set_cons_zero, List.set_cons_succ] at hK ⊢
          go_simp
          exact hK _ _ (Below.refl _ _) (by first | rfl | simp) hg
        refine Each.cons (fun vs W hl => ?_) ?_
        · apply with42 hl
          clear hl vs
          intro v0 v1 v2 v3 v4 v5 v6 v7 v8 v9 v10 v11 v12 v13 v14 v15 v16 v17 v18 v19 v20 v21 v22 v23 v24 v25 v26 v27 v28 v29 v30 v31 v32 v33 v34 v35 v36 v37 v38 v39 v40 v41 hg hnew hd K hK
          have d29 : v29 = Value.bool true := hd 29 v29 (by kernel_rfl) rfl
          subst d29
          have d32 : v32 = Value.bool true := hd 32 v32 (by kernel_rfl) rfl
          subst d32
          clear hd
          clear hnew
          rw [if_pos (by kernel_rfl)]
          simp only [puts, Act.put, List.setIfInBounds_toArray, List.set_cons_zero, List.set_cons_succ] at hK ⊢
          go_simp
          exact hK _ _ (Below.refl _ _) rfl hg
        refine Each.cons (fun vs W hl => ?_) ?_
        · apply with42 hl
          clear hl vs
          intro v0 v1 v2 v3 v4 v5 v6 v7 v8 v9 v10 v11 v12 v13 v14 v15 v16 v17 v18 v19 v20 v21 v22 v23 v24 v25 v26 v27 v28 v29 v30 v31 v32 v33 v34 v35 v36 v37 v38 v39 v40 v41 hg hnew hd K hK
          have d33 : v33 = Value.bool true := hd 33 v33 (by kernel_rfl) rfl
          subst d33
          clear hd
          clear hnew
          rw [if_pos (by kernel_rfl)]
          simp only [puts, Act.put, List.setIfInBounds_toArray, List.set_cons_zero, List.set_cons_succ] at hK ⊢
          go_simp
          exact hK _ _ (Below.refl _ _) rfl hg
        refine Each.cons (fun vs W hl => ?_) ?_
        · apply with42 hl
          clear hl vs
          intro v0 v1 v2 v3 v4 v5 v6 v7 v8 v9 v10 v11 v12 v13 v14 v15 v16 v17 v18 v19 v20 v21 v22 v23 v24 v25 v26 v27 v28 v29 v30 v31 v32 v33 v34 v35 v36 v37 v38 v39 v40 v41 hg hnew hd K hK
          have d34 : v34 = Value.bool true := hd 34 v34 (by kernel_rfl) rfl
          subst d34
          clear hd
          clear hnew
          rw [if_pos (by kernel_rfl)]
          simp only [puts, Act.put, List.setIfInBounds_toArray, List.set_cons_zero, List.set_cons_succ] at hK ⊢
          go_simp
          exact hK _ _ (Below.refl _ _) rfl hg
        refine Each.cons (fun vs W hl => ?_) ?_
        · apply with42 hl
          clear hl vs
          intro v0 v1 v2 v3 v4 v5 v6 v7 v8 v9 v10 v11 v12 v13 v14 v15 v16 v17 v18 v19 v20 v21 v22 v23 v24 v25 v26 v27 v28 v29 v30 v31 v32 v33 v34 v35 v36 v37 v38 v39 v40 v41 hg hnew hd K hK
          have d34 : v34 = Value.bool true := hd 34 v34 (by kernel_rfl) rfl
          subst d34
          clear hd
          clear hnew
          rw [if_pos (by kernel_rfl)]
          simp only [puts, Act.put, List.setIfInBounds_toArray, List.set_cons_zero, List.set_cons_succ] at hK ⊢
          go_simp
          exact hK _ _ (Below.refl _ _) rfl hg
        refine Each.cons (fun vs W hl => ?_) ?_
        · apply with42 hl
          clear hl vs
          intro v0 v1 v2 v3 v4 v5 v6 v7 v8 v9 v10 v11 v12 v13 v14 v15 v16 v17 v18 v19 v20 v21 v22 v23 v24 v25 v26 v27 v28 v29 v30 v31 v32 v33 v34 v35 v36 v37 v38 v39 v40 v41 hg hnew hd K hK
          have d34 : v34 = Value.bool true := hd 34 v34 (by kernel_rfl) rfl
          subst d34
          have d35 : v35 = Value.slice ix nx ic := hd 35 v35 (by kernel_rfl) rfl
          subst d35
          have d36 : v36 = Value.slice lx nx lc := hd 36 v36 (by kernel_rfl) rfl
          subst d36
          clear hd
          clear hnew
          rw [if_pos (by kernel_rfl)]
          simp only [puts, Act.put, List.setIfInBounds_toArray, List.set_cons_zero, List.set_cons_succ] at hK ⊢
          go_simp
          have hsm := same_any (IN7.out.keep hg) (HX.out.keep (below_below B7.out hg))
          rw [sameAs_self] at hsm
          refine hsm.mono ?_
          clear hsm
          rintro e w' ⟨rfl, hk⟩
          exact hK _ _ hk rfl (below_below hg hk)
        refine Each.cons (fun vs W hl => ?_) ?_
        · apply with42 hl
          clear hl vs
          intro v0 v1 v2 v3 v4 v5 v6 v7 v8 v9 v10 v11 v12 v13 v14 v15 v16 v17 v18 v19 v20 v21 v22 v23 v24 v25 v26 v27 v28 v29 v30 v31 v32 v33 v34 v35 v36 v37 v38 v39 v40 v41 hg hnew hd K hK
          have d34 : v34 = Value.bool true := hd 34 v34 (by kernel_rfl) rfl
          subst d34
          have d37 : v37 = Value.bool true := hd 37 v37 (by kernel_rfl) rfl
          subst d37
          clear hd
          clear hnew
          rw [if_pos (by kernel_rfl)]
          simp only [puts, Act.put, List.setIfInBounds_toArray, List.set_cons_zero, List.set_cons_succ] at hK ⊢
          go_simp
          exact hK _ _ (Below.refl _ _) rfl hg
        refine Each.cons (fun vs W hl => ?_) ?_
        · apply with42 hl
          clear hl vs
          intro v0 v1 v2 v3 v4 v5 v6 v7 v8 v9 v10 v11 v12 v13 v14 v15 v16 v17 v18 v19 v20 v21 v22 v23 v24 v25 v26 v27 v28 v29 v30 v31 v32 v33 v34 v35 v36 v37 v38 v39 v40 v41 hg hnew hd K hK
          have d38 : v38 = Value.bool true := hd 38 v38 (by kernel_rfl) rfl
          subst d38
          clear hd
          clear hnew
          rw [if_pos (by kernel_rfl)]
          simp only [puts, Act.put, List.setIfInBounds_toArray, List.set_cons_zero, List.set_cons_succ] at hK ⊢
          go_simp
          exact hK _ _ (Below.refl _ _) rfl hg
        refine Each.cons (fun vs W hl => ?_) ?_
        · apply with42 hl
          clear hl vs
          intro v0 v1 v2 v3 v4 v5 v6 v7 v8 v9 v10 v11 v12 v13 v14 v15 v16 v17 v18 v19 v20 v21 v22 v23 v24 v25 v26 v27 v28 v29 v30 v31 v32 v33 v34 v35 v36 v37 v38 v39 v40 v41 hg hnew hd K hK
          have d39 : v39 = Value.bool true := hd 39 v39 (by kernel_rfl) rfl
          subst d39
          clear hd
          clear hnew
          rw [if_pos (by kernel_rfl)]
          simp only [puts, Act.put, List.setIfInBounds_toArray, List.set_cons_zero, List.set_cons_succ] at hK ⊢
          go_simp
          refine (works_true W).mono ?_
          rintro e w' ⟨rfl, hk⟩
          exact hK _ _ hk rfl (below_below hg hk)
        refine Each.cons (fun vs W hl => ?_) ?_
        · apply with42 hl
          clear hl vs
          intro v0 v1 v2 v3 v4 v5 v6 v7 v8 v9 v10 v11 v12 v13 v14 v15 v16 v17 v18 v19 v20 v21 v22 v23 v24 v25 v26 v27 v28 v29 v30 v31 v32 v33 v34 v35 v36 v37 v38 v39 v40 v41 hg hnew hd K hK
          have d39 : v39 = Value.bool true := hd 39 v39 (by kernel_rfl) rfl
          subst d39
          have d40 : v40 = Value.bool true := hd 40 v40 (by kernel_rfl) rfl
          subst d40
          clear hd
          clear hnew
          rw [if_pos (by kernel_rfl)]
          simp only [puts, Act.put, List.setIfInBounds_toArray, List.set_cons_zero, List.set_cons_succ] at hK ⊢
          go_simp
          exact hK _ _ (Below.refl _ _) rfl hg
        exact Each.nil
      · intro vs W hl
        apply with42 hl
        clear hl vs
        intro v0 v1 v2 v3 v4 v5 v6 v7 v8 v9 v10 v11 v12 v13 v14 v15 v16 v17 v18 v19 v20 v21 v22 v23 v24 v25 v26 v27 v28 v29 v30 v31 v32 v33 v34 v35 v36 v37 v38 v39 v40 v41 hg hall
        have d0 : v0 = Value.agg #[Value.int IntKind.i64 k, Value.int IntKind.i64 n, Value.string s] := hall 0 v0 rfl
        subst d0
        have d1 : v1 = Value.int IntKind.i64 ev := hall 1 v1 rfl
        subst d1
        have d2 : v2 = Value.agg #[Value.int IntKind.i64 k, Value.int IntKind.i64 n, Value.string s] := hall 2 v2 rfl
        subst d2
        have d3 : v3 = Value.int IntKind.i64 ev := hall 3 v3 rfl
        subst d3
        have d4 : v4 = Value.bool true := hall 4 v4 rfl
        subst d4
        have d5 : v5 = Value.bool true := hall 5 v5 rfl
        subst d5
        have d6 : v6 = Value.agg #[Value.int IntKind.i64 k, Value.int IntKind.i64 n, Value.string s] := hall 6 v6 rfl
        subst d6
        have d7 : v7 = Value.agg #[Value.int IntKind.i64 k2, Value.int IntKind.i64 n2, Value.string s2] := hall 7 v7 rfl
        subst d7
        have d8 : v8 = Value.int IntKind.i64 cv := hall 8 v8 rfl
        subst d8
        have d9 : v9 = Value.agg #[Value.int IntKind.i64 k, Value.int IntKind.i64 n, Value.string s] := hall 9 v9 rfl
        subst d9
        have d10 : v10 = Value.agg #[Value.int IntKind.i64 k2, Value.int IntKind.i64 n2, Value.string s2] := hall 10 v10 rfl
        subst d10
        have d11 : v11 = Value.int IntKind.i64 cv := hall 11 v11 rfl
        subst d11
        have d12 : v12 = Value.bool true := hall 12 v12 rfl
        subst d12
        have d13 : v13 = Value.bool true := hall 13 v13 rfl
        subst d13
        have d14 : v14 = Value.bool true := hall 14 v14 rfl
        subst d14
        have d15 : v15 = Value.slice p1 q1 c1 := hall 15 v15 rfl
        subst d15
        have d16 : v16 = Value.slice p2 q2 c2 := hall 16 v16 rfl
        subst d16
        have d17 : v17 = Value.bool true := hall 17 v17 rfl
        subst d17
        have d18 : v18 = Value.bool true := hall 18 v18 rfl
        subst d18
        have d19 : v19 = Value.bool true := hall 19 v19 rfl
        subst d19
        have d20 : v20 = Value.int IntKind.i64 ev := hall 20 v20 rfl
        subst d20
        have d21 : v21 = Value.int IntKind.i64 ev := hall 21 v21 rfl
        subst d21
        have d22 : v22 = Value.bool true := hall 22 v22 rfl
        subst d22
        have d23 : v23 = Value.bool true := hall 23 v23 rfl
        subst d23
        have d24 : v24 = Value.bool true := hall 24 v24 rfl
        subst d24
        have d25 : v25 = Value.slice p3 q3 c3 := hall 25 v25 rfl
        subst d25
        have d26 : v26 = Value.slice p4 q4 c4 := hall 26 v26 rfl
        subst d26
        have d27 : v27 = Value.bool true := hall 27 v27 rfl
        subst d27
        have d28 : v28 = Value.bool true := hall 28 v28 rfl
        subst d28
        have d29 : v29 = Value.bool true := hall 29 v29 rfl
        subst d29
        have d30 : v30 = Value.int IntKind.i64 eu := hall 30 v30 rfl
        subst d30
        have d31 : v31 = Value.int IntKind.i64 eu := hall 31 v31 rfl
        subst d31
        have d32 : v32 = Value.bool true := hall 32 v32 rfl
        subst d32
        have d33 : v33 = Value.bool true := hall 33 v33 rfl
        subst d33
        have d34 : v34 = Value.bool true := hall 34 v34 rfl
        subst d34
        have d35 : v35 = Value.slice ix nx ic := hall 35 v35 rfl
        subst d35
        have d36 : v36 = Value.slice lx nx lc := hall 36 v36 rfl
        subst d36
        have d37 : v37 = Value.bool true := hall 37 v37 rfl
        subst d37
        have d38 : v38 = Value.bool true := hall 38 v38 rfl
        subst d38
        have d39 : v39 = Value.bool true := hall 39 v39 rfl
        subst d39
        have d40 : v40 = Value.bool true := hall 40 v40 rfl
        subst d40
        have d41 : v41 = Value.bool true := hall 41 v41 rfl
        subst d41
        clear hall
        simp only [puts, Act.put, List.setIfInBounds_toArray, List.set_cons_zero, List.set_cons_succ, List.take_succ_cons, List.take_zero, List.drop_succ_cons, List.drop_zero]
        have BE := hd (below_below B7.out hg)
        clear hg
        go_wp2_with fail
        go_ret
        exact VEnd.mk BE.out

end Go.Proofs.Ytibnjhnecfcimaa
