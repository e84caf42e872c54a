/- policy.Write. -/
import Derived.Test.YtcigbfjmnhogiabGreatDoorWr
import Derived.Test.YtcigbfjmnhogiabGreatDoorBj
import Derived.Test.YtcigbfjmnhogiabGreatDoorOpn
import Derived.Test.YtcigbfjmnhogiabGreatDoorFd
import Derived.Deep.Cut
namespace Go.Proofs.YtcigbfjmnhogiabGreatDoor
open Go.RowKit
set_option linter.unusedVariables false

theorem textI_ok (x p : Int) (w : World) (h0 : 0 ≤ x) (h1 : x ≤ 7) (h2 : 0 ≤ p) (h3 : p < 4294967296) :
    Calls Tryz.prog 22 #[.agg #[.int .i64 x, .int .u32 p]] w fun e w' => VEnd w (.string (textOf x.toNat p.toNat)) e w' := by
  have h := text_ok x.toNat p.toNat w (by omega) (by omega)
  have ex : ((x.toNat : Nat) : Int) = x := by omega
  have ep : ((p.toNat : Nat) : Int) = p := by omega
  rwa [ex, ep] at h

/-- The text so far. -/
theorem wr_stepR (rs : List RuleD) {k : Nat} (hk : k < rs.length) : wrL (rs.take (k + 1), []) = wrL (rs.take k, []) ++ (lnR rs[k] ++ [10]) := by
  unfold wrL lns
  rw [List.take_succ_eq_append_getElem hk]
  simp only [List.map_append, List.map_cons, List.map_nil, List.flatten_append, List.flatten_cons, List.flatten_nil, List.append_nil]
theorem wr_stepQ (rs : List RuleD) (qs : List ReaderD) {k : Nat} (hk : k < qs.length) : wrL (rs, qs.take (k + 1)) = wrL (rs, qs.take k) ++ (lnQ qs[k] ++ [10]) := by
  unfold wrL lns
  rw [List.take_succ_eq_append_getElem hk]
  simp only [List.map_append, List.map_cons, List.map_nil, List.flatten_append, List.flatten_cons, List.flatten_nil, List.append_nil, List.append_assoc]
theorem wr_partR {rs : List RuleD} {qs : List ReaderD} (h : GoodP (rs, qs)) (k : Nat) : (wrL (rs.take k, [])).length ≤ 4000 :=
  wrL_le ⟨List.Pairwise.sublist (List.take_sublist k rs) h.sr, .nil, by have := h.lr; simp at this ⊢; omega, by simp, fun r hr => h.gr r (List.mem_of_mem_take hr), fun _ hr => by simp at hr⟩
theorem wr_partQ {rs : List RuleD} {qs : List ReaderD} (h : GoodP (rs, qs)) (k : Nat) : (wrL (rs, qs.take k)).length ≤ 4000 :=
  wrL_le ⟨h.sr, List.Pairwise.sublist (List.take_sublist k qs) h.sq, h.lr, by have := h.lq; simp at this ⊢; omega, h.gr, fun r hr => h.gq r (List.mem_of_mem_take hr)⟩

/-- While Write writes: the policy lies in block bx, the text so far in builder bb. -/
structure WS (w : World) (bx bb : Nat) (u v : Value) (l : List UInt8) (W : World) : Prop where
  bel : Below w.heap.size w W
  pb : Bk W bx 28 #[u, v]
  bd : Bd W bb bb l
  lt : bx < bb
  le : w.heap.size ≤ bx
theorem WS.call {w W W' : World} {bx bb : Nat} {u v : Value} {l : List UInt8} (h : WS w bx bb u v l W) (k : Below W.heap.size W W') : WS w bx bb u v l W' :=
  ⟨below_below h.bel k, h.pb.keep k, h.bd.keep k, h.lt, h.le⟩
theorem WS.wrote {w W W' : World} {bx bb : Nat} {u v : Value} {l l' : List UInt8} (h : WS w bx bb u v l W) (k : Below bb W W') (hb : Bd W' bb bb l') : WS w bx bb u v l' W' :=
  ⟨h.bel.trans (k.mono (Nat.le_trans h.le (Nat.le_of_lt h.lt))), h.pb.keepB k h.lt, hb, h.lt, h.le⟩
/-- .. and block f holds a copy of what is told. -/
def WF (w : World) (bx bb : Nat) (u v : Value) (l : List UInt8) (f : Nat) (t : TypeId) (cs : Array Value) (W : World) : Prop := WS w bx bb u v l W ∧ Bk W f t cs
theorem WF.call {w W W' : World} {bx bb : Nat} {u v : Value} {l : List UInt8} {f : Nat} {t : TypeId} {cs : Array Value} (h : WF w bx bb u v l f t cs W) (k : Below W.heap.size W W') : WF w bx bb u v l f t cs W' :=
  ⟨h.1.call k, h.2.keep k⟩

theorem lineT_R (r : RuleD) (x p : Int) (s : ByteArray) (hr : r = (s, x, p)) : lineT [⟨#[114, 117, 108, 101]⟩, s, textOf x.toNat p.toNat] = lnR r := by subst hr; rfl
theorem lineT_Q (r : ReaderD) (x p a b : Int) (s : ByteArray) (hr : r = (s, x, p, a, b)) : lineT [⟨#[114, 101, 97, 100, 101, 114]⟩, s, textOf x.toNat p.toNat, tx a, tx b] = lnQ r := by subst hr; rfl

set_option maxRecDepth 100000 in
set_option maxHeartbeats 4000000 in
theorem write_good {w : World} {u v : Value} {rs : List RuleD} {qs : List ReaderD} (hr : El encR 3 w u rs) (hq : El encQ 5 w v qs) (hg : GoodP (rs, qs)) (G : Glob w) :
    Calls Tryz.prog 8 #[.agg #[u, v]] w fun e w' => VEnd w (.tuple #[.string (tB (wrL (rs, qs))), .int .i64 0]) e w' := by
  obtain ⟨x0, capr, rfl⟩ := hr.form
  obtain ⟨y0, capq, rfl⟩ := hq.form
  have HG := hd G
  have HGP := hd hg
  have HOK := hd (goodP_ok hg)
  have HR := hd hr
  have HQ := hd hq
  clear hr hq hg G
  obtain ⟨n, hn⟩ : ∃ n, rs.length = n := ⟨_, rfl⟩
  obtain ⟨m, hm⟩ : ∃ m, qs.length = m := ⟨_, rfl⟩
  have HCK := hd fun w' (k : Below w.heap.size w w') => check_pol (HR.out.keep k) (HQ.out.keep k)
  rw [hn] at HR HCK ⊢
  rw [hm] at HQ HCK ⊢
  have HN := hd hn
  have HM := hd hm
  have HC0 := hd (show ckI (okPol rs qs) = 0 by unfold ckI; rw [HOK.out]; rfl)
  rw [HC0.out] at HCK
  clear hn hm
  go_enter Tryz.func8, Tryz.ntmps8
  go_wp2_with fail
  have A1 := Bk.new w 28 #[Value.slice x0 n capr, Value.slice y0 m capq]
  have B1 := below1 w (Obj.cells #[Value.slice x0 n capr, Value.slice y0 m capq] 28)
  generalize w.alloc (Obj.cells #[Value.slice x0 n capr, Value.slice y0 m capq] 28) = w1 at *
  obtain ⟨bx, hbx⟩ : ∃ bx, w.heap.size = bx := ⟨_, rfl⟩
  have HBX := hd hbx
  rw [hbx] at A1 ⊢
  clear hbx
  refine (HCK.out w1 B1).mono ?_
  rintro e w2 ⟨rfl, hk⟩
  have A2 := A1.keep hk
  have HB2 := hd (below_below B1 hk)
  have c0 : (w2.alloc (Obj.cells #[Value.pointer none, Value.slice none 0 0] 52)).cell? ⟨bx, 0, none⟩ = some (Value.slice x0 n capr) := (A2.alloc _).cell 0
  have HA2 := hd A2
  clear A1 B1 hk A2
  go_wp2_with fail
  have HS := hd (⟨below_below HB2.out (below1 w2 _), HA2.out.keep (below1 w2 _), Bd.new w2 _ (Nat.le_refl _), HA2.out.lt, Nat.le_of_eq HBX.out⟩ : WS w bx w2.heap.size (.slice x0 n capr) (.slice y0 m capq) [] (w2.alloc (Obj.cells #[Value.pointer none, Value.slice none 0 0] 52)))
  generalize w2.alloc (Obj.cells #[Value.pointer none, Value.slice none 0 0] 52) = w3 at *
  obtain ⟨bb, hbb⟩ : ∃ bb, w2.heap.size = bb := ⟨_, rfl⟩
  rw [hbb] at HS ⊢
  clear hbb c0 HA2 HB2
  go_loopw [18] (fun i wr => ∃ k : Nat, k ≤ n ∧ i = .int .i64 (k : Int) ∧ WS w bx bb (.slice x0 n capr) (.slice y0 m capq) (wrL (rs.take k, [])) wr) (fun i _ => n - (intOf i).toNat)
  case atStart => exact ⟨0, Nat.zero_le _, rfl, by rw [List.take_zero]; exact HS.out⟩
  case round =>
    obtain ⟨k, hkn, rfl, hws⟩ := hrel
    have HWS := hd hws
    clear hws HS
    have d0 := HWS.out.pb.cell 0
    have d1 := HWS.out.pb.cell 1
    simp at d0 d1
    by_cases hlt : k < n
    · have hlz : (k : Int) < (n : Int) := by omega
      have hxk : k < rs.length := by rw [HN.out]; omega
      obtain ⟨⟨s, x, p⟩, he1⟩ : ∃ r : RuleD, rs[k]'hxk = r := ⟨_, rfl⟩
      obtain ⟨g, off, hx, hcx, _, c10, c11, c12⟩ := HR.out.atR HWS.out.bel HN.out hlt he1
      subst hx
      have hgood := HGP.out.gr _ (List.getElem_mem hxk)
      rw [he1] at hgood
      obtain ⟨hg0, hg1, hg2⟩ := hgood
      have hparts := okRule_parts hg0
      simp only at hparts hg1 hg2
      obtain ⟨l, hl⟩ : ∃ l, wrL (rs.take k, []) = l := ⟨_, rfl⟩
      rw [hl] at HWS
      obtain ⟨ln, hln⟩ : ∃ ln, lnR (s, x, p) = ln := ⟨_, rfl⟩
      obtain ⟨tt, htt⟩ : ∃ tt, textOf x.toNat p.toNat = tt := ⟨_, rfl⟩
      have HT := hd fun w => textI_ok x p w (by omega) (by omega) hg1 hg2
      rw [htt] at HT
      have hlt1 := lineT_R (s, x, p) x p s rfl
      rw [htt, hln] at hlt1
      have hlnl := lnR_len hg0
      rw [hln] at hlnl
      have hstep : wrL (rs.take (k + 1), []) = l ++ (ln ++ [10]) := by rw [wr_stepR rs hxk, hl, he1, hln]
      have HST := hd hstep
      have hsz : (l ++ (ln ++ [10])).length ≤ 100000 := by
        rw [← hstep]
        have := wr_partR HGP.out (k + 1)
        omega
      have HSZ := hd hsz
      have HL := hd fun w v (h : Ts w v [⟨#[114, 117, 108, 101]⟩, s, tt]) => told_ok (ws := [⟨#[114, 117, 108, 101]⟩, s, tt]) h (by simp) (by rw [hlt1]; omega)
      rw [hlt1] at HL
      have hff : ¬ g = wr.heap.size := Nat.ne_of_lt (World.block_lt_of_cell? wr _ c10)
      have hff2 : ¬ wr.heap.size = g := fun e => hff e.symm
      have hbf : ¬ bx = wr.heap.size := Nat.ne_of_lt HWS.out.pb.lt
      have hbf2 : ¬ wr.heap.size = bx := fun e => hbf e.symm
      clear hl hln htt hlt1 hlnl hstep hsz hparts hg0 hg1 hg2 
      go_wp2_with fail
      have HF := hd (⟨HWS.out.call (below1 wr _), Bk.new wr 37 #[Value.string s, Value.int IntKind.i64 x, Value.int IntKind.u32 p]⟩ : WF w bx bb (.slice (some ⟨g, off, none⟩) n capr) (.slice y0 m capq) l wr.heap.size 37 #[Value.string s, Value.int IntKind.i64 x, Value.int IntKind.u32 p] _)
      clear c10 c11 c12  d0 d1 hff hff2 hbf hbf2
      generalize wr.alloc (Obj.cells #[Value.string s, Value.int IntKind.i64 x, Value.int IntKind.u32 p] 37) = WA at *
      obtain ⟨f, hf⟩ : ∃ f, wr.heap.size = f := ⟨_, rfl⟩
      rw [hf] at HF ⊢
      clear hf HWS
      refine wp_region_each 7 (fun W W' => Below W.heap.size W W') (fun i v W => match i with | 0 => v = Value.pointer (some ⟨f, 0, none⟩) | 1 => v = Value.string s | 2 => v = Value.pointer (some ⟨f, 1, none⟩) | 3 => v = Value.agg #[Value.int IntKind.i64 x, Value.int IntKind.u32 p] | 4 => v = Value.string tt | 5 => Ts W v [⟨#[114, 117, 108, 101]⟩, s, tt] | 6 => v = Value.string (tB (ln ++ [10])) | _ => True) (fun _ W => WF w bx bb (.slice (some ⟨g, off, none⟩) n capr) (.slice y0 m capq) l f 37 #[Value.string s, Value.int IntKind.i64 x, Value.int IntKind.u32 p] W) (by kernel_rfl) (by kernel_rfl) (fun j v W W' hE h => by
          match j with
          | 0 => exact h
          | 1 => exact h
          | 2 => exact h
          | 3 => exact h
          | 4 => exact h
          | 5 => exact Ts.keep h hE
          | 6 => exact h
          | _ + 7 => trivial) (WF.call HF.out (Below.refl _ _).drew) ?_ ?_
      · simp only [List.take_succ_cons, List.take_zero]
        refine Each.cons (fun vs W hl => ?_) ?_
        · apply with7 hl
          clear hl vs
          intro v0 v1 v2 v3 v4 v5 v6 hg hd K hK
          clear hd
          rw [if_pos (by kernel_rfl)]
          simp only [puts, Act.put, List.setIfInBounds_toArray, List.set_cons_zero, List.set_cons_succ] at hK ⊢
          go_simp
          exact hK _ _ (Below.refl _ _) rfl hg
        refine Each.cons (fun vs W hl => ?_) ?_
        · apply with7 hl
          clear hl vs
          intro v0 v1 v2 v3 v4 v5 v6 hg hd K hK
          have d0 : v0 = Value.pointer (some ⟨f, 0, none⟩) := hd 0 v0 (by kernel_rfl) rfl
          subst d0
          clear hd
          rw [if_pos (by kernel_rfl)]
          simp only [puts, Act.put, List.setIfInBounds_toArray, List.set_cons_zero, List.set_cons_succ] at hK ⊢
          have c0 := hg.2.cell 0
          simp at c0
          go_simp
          exact hK _ _ (Below.refl _ _) rfl hg
        refine Each.cons (fun vs W hl => ?_) ?_
        · apply with7 hl
          clear hl vs
          intro v0 v1 v2 v3 v4 v5 v6 hg hd K hK
          clear hd
          rw [if_pos (by kernel_rfl)]
          simp only [puts, Act.put, List.setIfInBounds_toArray, List.set_cons_zero, List.set_cons_succ] at hK ⊢
          go_simp
          exact hK _ _ (Below.refl _ _) rfl hg
        refine Each.cons (fun vs W hl => ?_) ?_
        · apply with7 hl
          clear hl vs
          intro v0 v1 v2 v3 v4 v5 v6 hg hd K hK
          have d2 : v2 = Value.pointer (some ⟨f, 1, none⟩) := hd 2 v2 (by kernel_rfl) rfl
          subst d2
          clear hd
          rw [if_pos (by kernel_rfl)]
          simp only [puts, Act.put, List.setIfInBounds_toArray, List.set_cons_zero, List.set_cons_succ] at hK ⊢
          have c1 := hg.2.cell 1
          simp at c1
          have c2 := hg.2.cell 2
          simp at c2
          go_simp
          exact hK _ _ (Below.refl _ _) rfl hg
        refine Each.cons (fun vs W hl => ?_) ?_
        · apply with7 hl
          clear hl vs
          intro v0 v1 v2 v3 v4 v5 v6 hg hd K hK
          have d3 : v3 = Value.agg #[Value.int IntKind.i64 x, Value.int IntKind.u32 p] := hd 3 v3 (by kernel_rfl) rfl
          subst d3
          clear hd
          rw [if_pos (by kernel_rfl)]
          simp only [puts, Act.put, List.setIfInBounds_toArray, List.set_cons_zero, List.set_cons_succ] at hK ⊢
          go_simp
          refine (HT.out _).mono ?_
          rintro e w' ⟨rfl, hk⟩
          exact hK _ _ hk rfl (WF.call hg hk)
        refine Each.cons (fun vs W hl => ?_) ?_
        · apply with7 hl
          clear hl vs
          intro v0 v1 v2 v3 v4 v5 v6 hg hd K hK
          have d1 : v1 = Value.string s := hd 1 v1 (by kernel_rfl) rfl
          subst d1
          have d4 : v4 = Value.string tt := hd 4 v4 (by kernel_rfl) rfl
          subst d4
          clear hd
          rw [if_pos (by kernel_rfl)]
          simp only [puts, Act.put, List.setIfInBounds_toArray, List.set_cons_zero, List.set_cons_succ] at hK ⊢
          go_simp
          exact hK _ _ (below1 _ _) ⟨_, rfl, Bk.new _ _ _⟩ (WF.call hg (below1 _ _))
        refine Each.cons (fun vs W hl => ?_) ?_
        · apply with7 hl
          clear hl vs
          intro v0 v1 v2 v3 v4 v5 v6 hg hd K hK
          have d5 : Ts W v5 [⟨#[114, 117, 108, 101]⟩, s, tt] := hd 5 v5 (by kernel_rfl) rfl
          clear hd
          rw [if_pos (by kernel_rfl)]
          simp only [puts, Act.put, List.setIfInBounds_toArray, List.set_cons_zero, List.set_cons_succ] at hK ⊢
          obtain ⟨tg, htg, _⟩ := id d5
          subst htg
          go_simp
          refine (HL.out _ _ d5).mono ?_
          rintro e w' ⟨rfl, hk⟩
          exact hK _ _ hk rfl (WF.call hg hk)
        exact Each.nil
      · intro vs W hl
        apply with7 hl
        clear hl vs
        intro v0 v1 v2 v3 v4 v5 v6 hg hall
        have d0 : v0 = Value.pointer (some ⟨f, 0, none⟩) := hall 0 v0 rfl
        subst d0
        have d1 : v1 = Value.string s := hall 1 v1 rfl
        subst d1
        have d2 : v2 = Value.pointer (some ⟨f, 1, none⟩) := hall 2 v2 rfl
        subst d2
        have d3 : v3 = Value.agg #[Value.int IntKind.i64 x, Value.int IntKind.u32 p] := hall 3 v3 rfl
        subst d3
        have d4 : v4 = Value.string tt := hall 4 v4 rfl
        subst d4
        have d5 : Ts W v5 [⟨#[114, 117, 108, 101]⟩, s, tt] := hall 5 v5 rfl
        have d6 : v6 = Value.string (tB (ln ++ [10])) := hall 6 v6 rfl
        subst d6
        clear hall
        simp only [puts, Act.put, List.setIfInBounds_toArray, List.set_cons_zero, List.set_cons_succ, List.take_succ_cons, List.take_zero, List.drop_succ_cons, List.drop_zero]
        have HG1 := hd hg.1
        clear hg
        clear d5
        go_wp2_with fail
        refine (write_ok HG1.out.bd HSZ.out (Nat.le_of_lt HG1.out.bd.lt)).mono ?_
        rintro e w8 ⟨rfl, hb8, hk8⟩
        have HG8 := hd (HG1.out.wrote hk8 hb8)
        clear hb8 hk8
        go_wp2_with fail
        go_roundw
        case rel =>
          refine ⟨k + 1, by omega, by go_num, ?_⟩
          have h := HG8.out
          rw [← HST.out] at h
          exact h
        case measure => simp [intOf]; omega
    · have hlz : ¬ (k : Int) < (n : Int) := by omega
      obtain rfl : n = k := by omega
      have hws := HWS.out
      rw [List.take_of_length_le (by rw [HN.out]; exact Nat.le_refl _)] at hws
      have HS2 := hd hws
      clear hws HWS hkn
      go_wp2_with fail
      go_loopw [34] (fun i wr => ∃ k : Nat, k ≤ m ∧ i = .int .i64 (k : Int) ∧ WS w bx bb (.slice x0 n capr) (.slice y0 m capq) (wrL (rs, qs.take k)) wr) (fun i _ => m - (intOf i).toNat)
      case atStart => exact ⟨0, Nat.zero_le _, rfl, by rw [List.take_zero]; exact HS2.out⟩
      case round =>
        obtain ⟨k, hkn, rfl, hws⟩ := hrel
        have HWS := hd hws
        clear hws HS2 d0 d1
        have d0 := HWS.out.pb.cell 0
        have d1 := HWS.out.pb.cell 1
        simp at d0 d1
        by_cases hlt : k < m
        · have hlz : (k : Int) < (m : Int) := by omega
          have hxk : k < qs.length := by rw [HM.out]; omega
          obtain ⟨⟨s, x, p, a, b⟩, he1⟩ : ∃ r : ReaderD, qs[k]'hxk = r := ⟨_, rfl⟩
          obtain ⟨g, off, hx, hcx, _, c10, c11, c12, c13, c14⟩ := HQ.out.atQ HWS.out.bel HM.out hlt he1
          subst hx
          have hgood := HGP.out.gq _ (List.getElem_mem hxk)
          rw [he1] at hgood
          obtain ⟨hg0, hg1, hg2⟩ := hgood
          have hparts := okReader_parts hg0
          simp only at hparts hg1 hg2
          obtain ⟨l, hl⟩ : ∃ l, wrL (rs, qs.take k) = l := ⟨_, rfl⟩
          rw [hl] at HWS
          obtain ⟨ln, hln⟩ : ∃ ln, lnQ (s, x, p, a, b) = ln := ⟨_, rfl⟩
          obtain ⟨tt, htt⟩ : ∃ tt, textOf x.toNat p.toNat = tt := ⟨_, rfl⟩
          obtain ⟨ta, hta⟩ : ∃ ta, tx a = ta := ⟨_, rfl⟩
          obtain ⟨tb, htb⟩ : ∃ tb, tx b = tb := ⟨_, rfl⟩
          have HIA := hd fun w (hg : Glob w) => itoa_ok a w (by omega) (by omega) hg
          have HIB := hd fun w (hg : Glob w) => itoa_ok b w (by omega) (by omega) hg
          rw [hta] at HIA
          rw [htb] at HIB
          have HT := hd fun w => textI_ok x p w (by omega) (by omega) hg1 hg2
          rw [htt] at HT
          have hlt1 := lineT_Q (s, x, p, a, b) x p a b s rfl
          rw [htt, hta, htb, hln] at hlt1
          have hlnl := lnQ_len hg0
          rw [hln] at hlnl
          have hstep : wrL (rs, qs.take (k + 1)) = l ++ (ln ++ [10]) := by rw [wr_stepQ rs qs hxk, hl, he1, hln]
          have HST := hd hstep
          have hsz : (l ++ (ln ++ [10])).length ≤ 100000 := by
            rw [← hstep]
            have := wr_partQ HGP.out (k + 1)
            omega
          have HSZ := hd hsz
          have HL := hd fun w v (h : Ts w v [⟨#[114, 101, 97, 100, 101, 114]⟩, s, tt, ta, tb]) => told_ok (ws := [⟨#[114, 101, 97, 100, 101, 114]⟩, s, tt, ta, tb]) h (by simp) (by rw [hlt1]; omega)
          rw [hlt1] at HL
          have hff : ¬ g = wr.heap.size := Nat.ne_of_lt (World.block_lt_of_cell? wr _ c10)
          have hff2 : ¬ wr.heap.size = g := fun e => hff e.symm
          have hbf : ¬ bx = wr.heap.size := Nat.ne_of_lt HWS.out.pb.lt
          have hbf2 : ¬ wr.heap.size = bx := fun e => hbf e.symm
          clear hl hln htt hlt1 hlnl hstep hsz hparts hg0 hg1 hg2 hta htb
          go_wp2_with fail
          have HF := hd (⟨HWS.out.call (below1 wr _), Bk.new wr 39 #[Value.string s, Value.int IntKind.i64 x, Value.int IntKind.u32 p, Value.int IntKind.i64 a, Value.int IntKind.i64 b]⟩ : WF w bx bb (.slice x0 n capr) (.slice (some ⟨g, off, none⟩) m capq) l wr.heap.size 39 #[Value.string s, Value.int IntKind.i64 x, Value.int IntKind.u32 p, Value.int IntKind.i64 a, Value.int IntKind.i64 b] _)
          clear c10 c11 c12 c13 c14 d0 d1 hff hff2 hbf hbf2
          generalize wr.alloc (Obj.cells #[Value.string s, Value.int IntKind.i64 x, Value.int IntKind.u32 p, Value.int IntKind.i64 a, Value.int IntKind.i64 b] 39) = WA at *
          obtain ⟨f, hf⟩ : ∃ f, wr.heap.size = f := ⟨_, rfl⟩
          rw [hf] at HF ⊢
          clear hf HWS
          refine wp_region_each 13 (fun W W' => Below W.heap.size W W') (fun i v W => match i with | 0 => v = Value.pointer (some ⟨f, 0, none⟩) | 1 => v = Value.string s | 2 => v = Value.pointer (some ⟨f, 1, none⟩) | 3 => v = Value.agg #[Value.int IntKind.i64 x, Value.int IntKind.u32 p] | 4 => v = Value.string tt | 5 => v = Value.pointer (some ⟨f, 3, none⟩) | 6 => v = Value.int IntKind.i64 a | 7 => v = Value.string ta | 8 => v = Value.pointer (some ⟨f, 4, none⟩) | 9 => v = Value.int IntKind.i64 b | 10 => v = Value.string tb | 11 => Ts W v [⟨#[114, 101, 97, 100, 101, 114]⟩, s, tt, ta, tb] | 12 => v = Value.string (tB (ln ++ [10])) | _ => True) (fun _ W => WF w bx bb (.slice x0 n capr) (.slice (some ⟨g, off, none⟩) m capq) l f 39 #[Value.string s, Value.int IntKind.i64 x, Value.int IntKind.u32 p, Value.int IntKind.i64 a, Value.int IntKind.i64 b] W) (by kernel_rfl) (by kernel_rfl) (fun j v W W' hE h => by
              match j with
              | 0 => exact h
              | 1 => exact h
              | 2 => exact h
              | 3 => exact h
              | 4 => exact h
              | 5 => exact h
              | 6 => exact h
              | 7 => exact h
              | 8 => exact h
              | 9 => exact h
              | 10 => exact h
              | 11 => exact Ts.keep h hE
              | 12 => exact h
              | _ + 13 => trivial) (WF.call HF.out (Below.refl _ _).drew) ?_ ?_
          · simp only [List.take_succ_cons, List.take_zero]
            refine Each.cons (fun vs W hl => ?_) ?_
            · apply with13 hl
              clear hl vs
              intro v0 v1 v2 v3 v4 v5 v6 v7 v8 v9 v10 v11 v12 hg hd K hK
              clear hd
              rw [if_pos (by kernel_rfl)]
              simp only [puts, Act.put, List.setIfInBounds_toArray, List.set_cons_zero, List.set_cons_succ] at hK ⊢
              go_simp
              exact hK _ _ (Below.refl _ _) rfl hg
            refine Each.cons (fun vs W hl => ?_) ?_
            · apply with13 hl
              clear hl vs
              intro v0 v1 v2 v3 v4 v5 v6 v7 v8 v9 v10 v11 v12 hg hd K hK
              have d0 : v0 = Value.pointer (some ⟨f, 0, none⟩) := hd 0 v0 (by kernel_rfl) rfl
              subst d0
              clear hd
              rw [if_pos (by kernel_rfl)]
              simp only [puts, Act.put, List.setIfInBounds_toArray, List.set_cons_zero, List.set_cons_succ] at hK ⊢
              have c0 := hg.2.cell 0
              simp at c0
              go_simp
              exact hK _ _ (Below.refl _ _) rfl hg
            refine Each.cons (fun vs W hl => ?_) ?_
            · apply with13 hl
              clear hl vs
              intro v0 v1 v2 v3 v4 v5 v6 v7 v8 v9 v10 v11 v12 hg hd K hK
              clear hd
              rw [if_pos (by kernel_rfl)]
              simp only [puts, Act.put, List.setIfInBounds_toArray, List.set_cons_zero, List.set_cons_succ] at hK ⊢
              go_simp
              exact hK _ _ (Below.refl _ _) rfl hg
            refine Each.cons (fun vs W hl => ?_) ?_
            · apply with13 hl
              clear hl vs
              intro v0 v1 v2 v3 v4 v5 v6 v7 v8 v9 v10 v11 v12 hg hd K hK
              have d2 : v2 = Value.pointer (some ⟨f, 1, none⟩) := hd 2 v2 (by kernel_rfl) rfl
              subst d2
              clear hd
              rw [if_pos (by kernel_rfl)]
              simp only [puts, Act.put, List.setIfInBounds_toArray, List.set_cons_zero, List.set_cons_succ] at hK ⊢
              have c1 := hg.2.cell 1
              simp at c1
              have c2 := hg.2.cell 2
              simp at c2
              go_simp
              exact hK _ _ (Below.refl _ _) rfl hg
            refine Each.cons (fun vs W hl => ?_) ?_
            · apply with13 hl
              clear hl vs
              intro v0 v1 v2 v3 v4 v5 v6 v7 v8 v9 v10 v11 v12 hg hd K hK
              have d3 : v3 = Value.agg #[Value.int IntKind.i64 x, Value.int IntKind.u32 p] := hd 3 v3 (by kernel_rfl) rfl
              subst d3
              clear hd
              rw [if_pos (by kernel_rfl)]
              simp only [puts, Act.put, List.setIfInBounds_toArray, List.set_cons_zero, List.set_cons_succ] at hK ⊢
              go_simp
              refine (HT.out _).mono ?_
              rintro e w' ⟨rfl, hk⟩
              exact hK _ _ hk rfl (WF.call hg hk)
            refine Each.cons (fun vs W hl => ?_) ?_
            · apply with13 hl
              clear hl vs
              intro v0 v1 v2 v3 v4 v5 v6 v7 v8 v9 v10 v11 v12 hg hd K hK
              clear hd
              rw [if_pos (by kernel_rfl)]
              simp only [puts, Act.put, List.setIfInBounds_toArray, List.set_cons_zero, List.set_cons_succ] at hK ⊢
              go_simp
              exact hK _ _ (Below.refl _ _) rfl hg
            refine Each.cons (fun vs W hl => ?_) ?_
            · apply with13 hl
              clear hl vs
              intro v0 v1 v2 v3 v4 v5 v6 v7 v8 v9 v10 v11 v12 hg hd K hK
              have d5 : v5 = Value.pointer (some ⟨f, 3, none⟩) := hd 5 v5 (by kernel_rfl) rfl
              subst d5
              clear hd
              rw [if_pos (by kernel_rfl)]
              simp only [puts, Act.put, List.setIfInBounds_toArray, List.set_cons_zero, List.set_cons_succ] at hK ⊢
              have c3 := hg.2.cell 3
              simp at c3
              go_simp
              exact hK _ _ (Below.refl _ _) rfl hg
            refine Each.cons (fun vs W hl => ?_) ?_
            · apply with13 hl
              clear hl vs
              intro v0 v1 v2 v3 v4 v5 v6 v7 v8 v9 v10 v11 v12 hg hd K hK
              have d6 : v6 = Value.int IntKind.i64 a := hd 6 v6 (by kernel_rfl) rfl
              subst d6
              clear hd
              rw [if_pos (by kernel_rfl)]
              simp only [puts, Act.put, List.setIfInBounds_toArray, List.set_cons_zero, List.set_cons_succ] at hK ⊢
              go_simp
              refine (HIA.out _ (HG.out.keep hg.1.bel)).mono ?_
              rintro e w' ⟨rfl, hk⟩
              exact hK _ _ hk rfl (WF.call hg hk)
            refine Each.cons (fun vs W hl => ?_) ?_
            · apply with13 hl
              clear hl vs
              intro v0 v1 v2 v3 v4 v5 v6 v7 v8 v9 v10 v11 v12 hg hd K hK
              clear hd
              rw [if_pos (by kernel_rfl)]
              simp only [puts, Act.put, List.setIfInBounds_toArray, List.set_cons_zero, List.set_cons_succ] at hK ⊢
              go_simp
              exact hK _ _ (Below.refl _ _) rfl hg
            refine Each.cons (fun vs W hl => ?_) ?_
            · apply with13 hl
              clear hl vs
              intro v0 v1 v2 v3 v4 v5 v6 v7 v8 v9 v10 v11 v12 hg hd K hK
              have d8 : v8 = Value.pointer (some ⟨f, 4, none⟩) := hd 8 v8 (by kernel_rfl) rfl
              subst d8
              clear hd
              rw [if_pos (by kernel_rfl)]
              simp only [puts, Act.put, List.setIfInBounds_toArray, List.set_cons_zero, List.set_cons_succ] at hK ⊢
              have c4 := hg.2.cell 4
              simp at c4
              go_simp
              exact hK _ _ (Below.refl _ _) rfl hg
            refine Each.cons (fun vs W hl => ?_) ?_
            · apply with13 hl
              clear hl vs
              intro v0 v1 v2 v3 v4 v5 v6 v7 v8 v9 v10 v11 v12 hg hd K hK
              have d9 : v9 = Value.int IntKind.i64 b := hd 9 v9 (by kernel_rfl) rfl
              subst d9
              clear hd
              rw [if_pos (by kernel_rfl)]
              simp only [puts, Act.put, List.setIfInBounds_toArray, List.set_cons_zero, List.set_cons_succ] at hK ⊢
              go_simp
              refine (HIB.out _ (HG.out.keep hg.1.bel)).mono ?_
              rintro e w' ⟨rfl, hk⟩
              exact hK _ _ hk rfl (WF.call hg hk)
            refine Each.cons (fun vs W hl => ?_) ?_
            · apply with13 hl
              clear hl vs
              intro v0 v1 v2 v3 v4 v5 v6 v7 v8 v9 v10 v11 v12 hg hd K hK
              have d1 : v1 = Value.string s := hd 1 v1 (by kernel_rfl) rfl
              subst d1
              have d4 : v4 = Value.string tt := hd 4 v4 (by kernel_rfl) rfl
              subst d4
              have d7 : v7 = Value.string ta := hd 7 v7 (by kernel_rfl) rfl
              subst d7
              have d10 : v10 = Value.string tb := hd 10 v10 (by kernel_rfl) rfl
              subst d10
              clear hd
              rw [if_pos (by kernel_rfl)]
              simp only [puts, Act.put, List.setIfInBounds_toArray, List.set_cons_zero, List.set_cons_succ] at hK ⊢
              go_simp
              exact hK _ _ (below1 _ _) ⟨_, rfl, Bk.new _ _ _⟩ (WF.call hg (below1 _ _))
            refine Each.cons (fun vs W hl => ?_) ?_
            · apply with13 hl
              clear hl vs
              intro v0 v1 v2 v3 v4 v5 v6 v7 v8 v9 v10 v11 v12 hg hd K hK
              have d11 : Ts W v11 [⟨#[114, 101, 97, 100, 101, 114]⟩, s, tt, ta, tb] := hd 11 v11 (by kernel_rfl) rfl
              clear hd
              rw [if_pos (by kernel_rfl)]
              simp only [puts, Act.put, List.setIfInBounds_toArray, List.set_cons_zero, List.set_cons_succ] at hK ⊢
              obtain ⟨tg, htg, _⟩ := id d11
              subst htg
              go_simp
              refine (HL.out _ _ d11).mono ?_
              rintro e w' ⟨rfl, hk⟩
              exact hK _ _ hk rfl (WF.call hg hk)
            exact Each.nil
          · intro vs W hl
            apply with13 hl
            clear hl vs
            intro v0 v1 v2 v3 v4 v5 v6 v7 v8 v9 v10 v11 v12 hg hall
            have d0 : v0 = Value.pointer (some ⟨f, 0, none⟩) := hall 0 v0 rfl
            subst d0
            have d1 : v1 = Value.string s := hall 1 v1 rfl
            subst d1
            have d2 : v2 = Value.pointer (some ⟨f, 1, none⟩) := hall 2 v2 rfl
            subst d2
            have d3 : v3 = Value.agg #[Value.int IntKind.i64 x, Value.int IntKind.u32 p] := hall 3 v3 rfl
            subst d3
            have d4 : v4 = Value.string tt := hall 4 v4 rfl
            subst d4
            have d5 : v5 = Value.pointer (some ⟨f, 3, none⟩) := hall 5 v5 rfl
            subst d5
            have d6 : v6 = Value.int IntKind.i64 a := hall 6 v6 rfl
            subst d6
            have d7 : v7 = Value.string ta := hall 7 v7 rfl
            subst d7
            have d8 : v8 = Value.pointer (some ⟨f, 4, none⟩) := hall 8 v8 rfl
            subst d8
            have d9 : v9 = Value.int IntKind.i64 b := hall 9 v9 rfl
            subst d9
            have d10 : v10 = Value.string tb := hall 10 v10 rfl
            subst d10
            have d11 : Ts W v11 [⟨#[114, 101, 97, 100, 101, 114]⟩, s, tt, ta, tb] := hall 11 v11 rfl
            have d12 : v12 = Value.string (tB (ln ++ [10])) := hall 12 v12 rfl
            subst d12
            clear hall
            simp only [puts, Act.put, List.setIfInBounds_toArray, List.set_cons_zero, List.set_cons_succ, List.take_succ_cons, List.take_zero, List.drop_succ_cons, List.drop_zero]
            have HG1 := hd hg.1
            clear hg
            clear d11
            go_wp2_with fail
            refine (write_ok HG1.out.bd HSZ.out (Nat.le_of_lt HG1.out.bd.lt)).mono ?_
            rintro e w8 ⟨rfl, hb8, hk8⟩
            have HG8 := hd (HG1.out.wrote hk8 hb8)
            clear hb8 hk8
            go_wp2_with fail
            go_roundw
            case rel =>
              refine ⟨k + 1, by omega, by go_num, ?_⟩
              have h := HG8.out
              rw [← HST.out] at h
              exact h
            case measure => simp [intOf]; omega
        · have hlz : ¬ (k : Int) < (m : Int) := by omega
          obtain rfl : m = k := by omega
          have hws := HWS.out
          rw [List.take_of_length_le (by rw [HM.out]; exact Nat.le_refl _)] at hws
          have HS3 := hd hws
          clear hws HWS hkn d0 d1
          go_wp2_with fail
          refine (string_ok HS3.out.bd (Nat.le_of_lt HS3.out.bd.lt)).mono ?_
          rintro e w9 ⟨rfl, hk9⟩
          have HB9 := hd (HS3.out.bel.trans (hk9.mono (Nat.le_trans HS3.out.le (Nat.le_of_lt HS3.out.lt))))
          clear hk9
          go_wp2_with fail
          go_ret2
          exact VEnd.mk HB9.out

set_option maxRecDepth 100000 in
set_option maxHeartbeats 1000000 in
theorem write_bad {w : World} {u v : Value} {rs : List RuleD} {qs : List ReaderD} (hr : El encR 3 w u rs) (hq : El encQ 5 w v qs) (hf : okPol rs qs = false) :
    Calls Tryz.prog 8 #[.agg #[u, v]] w fun e w' => VEnd w (.tuple #[.string ⟨#[]⟩, .int .i64 70]) e w' := by
  have HCK := hd fun w' (k : Below w.heap.size w w') => check_pol (hr.keep k) (hq.keep k)
  have HC0 : ckI (okPol rs qs) = 70 := by unfold ckI; rw [hf]; rfl
  rw [HC0] at HCK
  obtain ⟨x0, capr, rfl⟩ := hr.form
  obtain ⟨y0, capq, rfl⟩ := hq.form
  clear hr hq HC0 hf
  generalize rs.length = n at *
  generalize qs.length = m at *
  go_enter Tryz.func8, Tryz.ntmps8
  go_wp2_with fail
  have B1 := below1 w (Obj.cells #[Value.slice x0 n capr, Value.slice y0 m capq] 28)
  generalize w.alloc (Obj.cells #[Value.slice x0 n capr, Value.slice y0 m capq] 28) = w1 at *
  refine (HCK.out w1 B1).mono ?_
  rintro e w2 ⟨rfl, hk⟩
  have HB2 := hd (below_below B1 hk)
  clear B1 hk
  go_wp2_with fail
  go_ret2
  exact VEnd.mk HB2.out

end Go.Proofs.YtcigbfjmnhogiabGreatDoor
