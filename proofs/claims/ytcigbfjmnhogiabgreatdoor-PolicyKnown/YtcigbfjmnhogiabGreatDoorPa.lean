/- Parse: its model and its contract. -/
import Derived.Test.YtcigbfjmnhogiabGreatDoorHd
import Derived.Laws.ResultCell
namespace Go.Proofs.YtcigbfjmnhogiabGreatDoor
open Go.RowKit
set_option linter.unusedVariables false


/-- Parse, line by line: how much is left at most, the line's number, what came of those ahead. -/
def parseF : Nat → Nat → PolD → ByteArray → Option PolD × Nat
  | 0, _, st, _ => (some st, 0)
  | f + 1, k, st, s =>
    if s.size = 0 then (some st, 0) else
    match heedM st (if firstIdx s 10 < 0 then s else s.extract 0 (firstIdx s 10).toNat) with
    | none => (none, k)
    | some st' => parseF f (k + 1) st' (if firstIdx s 10 < 0 then ⟨#[]⟩ else s.extract ((firstIdx s 10).toNat + 1) s.size)
def parseM (s : ByteArray) : Option PolD × Nat := parseF s.size 1 ([], []) s
theorem parseF_nil (f k : Nat) (st : PolD) (s : ByteArray) (h : s.size = 0) : parseF f k st s = (some st, 0) := by
  cases f with
  | zero => rfl
  | succ f => unfold parseF; rw [if_pos h]
theorem parseF_miss {f k : Nat} {st : PolD} {s : ByteArray} (h0 : s.size ≠ 0) (h : firstIdx s 10 = -1) :
    parseF (f + 1) k st s = match heedM st s with | none => (none, k) | some st' => parseF f (k + 1) st' ⟨#[]⟩ := by
  rw [parseF, if_neg h0, h]
  rfl
theorem parseF_hit {f k i : Nat} {st : PolD} {s : ByteArray} (h0 : s.size ≠ 0) (h : firstIdx s 10 = (i : Int)) :
    parseF (f + 1) k st s = match heedM st (s.extract 0 i) with | none => (none, k) | some st' => parseF f (k + 1) st' (s.extract (i + 1) s.size) := by
  rw [parseF, if_neg h0, h, if_neg (by omega), if_neg (by omega), Int.toNat_natCast]

/-- A policy whose rows are its own. -/
def OwnP (B : Nat) (w : World) (vr vq : Value) (st : PolD) : Prop :=
  Srt (α := RuleD) Prod.fst st.1 ∧ Srt (α := ReaderD) Prod.fst st.2 ∧ st.1.length ≤ 64 ∧ st.2.length ≤ 16 ∧ OwR B w vr st.1 ∧ OwQ B w vq st.2
/-- How Parse ends. -/
def PsM (w : World) (e : Ending) (w' : World) : Option PolD × Nat → Prop
  | (some st, _) => ∃ vr vq, e = .returned (.tuple #[.agg #[vr, vq], .int .i64 0, .int .i64 0]) ∧ OwnP w.heap.size w' vr vq st ∧ Below w.heap.size w w'
  | (none, n) => e = .returned (.tuple #[.agg #[.slice none 0 0, .slice none 0 0], .int .i64 (n : Int), .int .i64 70]) ∧ Below w.heap.size w w'

theorem und25 : Tryz.prog.underlying 28 = some (.struct (Tryz.prog.fieldsOf 28)) := by kernel_rfl
theorem lenP25 : (Tryz.prog.info? 28).map (·.size) = some 2 := by kernel_rfl
theorem results_cell_tmp2 {fn : Func} {p u v : Tmp} {ty : TypeId} (h : fn.results = #[.cell p ty, .tmp u, .tmp v]) (tmps : Array Value) (P : Program) (w : World) :
    (results fn tmps).run P w =
      ((asAddr (tmps.getD p undef)).run P w).andThen fun a w₁ => ((loadVar ty a).run P w₁).andThen fun x w₂ => .ok (.tuple #[x, tmps.getD u undef, tmps.getD v undef]) w₂ := by
  simp only [results, h]
  simp [Sem.run_bind, Result.andThen]
/-- A policy and two numbers as results. -/
theorem res_pol {fn : Func} {p u v : Tmp} (h : fn.results = #[.cell p 28, .tmp u, .tmp v]) (tmps : Array Value) (w : World) (g : Nat) (cs : Array Value)
    (hp : tmps.getD p undef = .pointer (some ⟨g, 0, none⟩)) (hg : Bk w g 28 cs) (hs : cs.size = 2) :
    (results fn tmps).run Tryz.prog w = .ok (.tuple #[.agg cs, tmps.getD u undef, tmps.getD v undef]) w := by
  rw [results_cell_tmp2 h, hp]
  have e := run_loadVar_row (P := Tryz.prog) w g 28 28 cs (0, 0) _ hg und25 rfl (by rw [hs]; exact lenP25)
  simp only [asAddr, Sem.run_pure, Result.andThen_ok, e]
def lenOf' : Value → Nat
  | .string b => b.size
  | _ => 0

theorem PolB.keep {B pb : Nat} {w w' : World} {st : PolD} (h : PolB B pb w st) (k : Below w.heap.size w w') : PolB B pb w' st := by
  obtain ⟨h1, h2, h3, h4, h5, vr, vq, h6, h7, h8⟩ := h
  exact ⟨h1, h2, h3, h4, h5, vr, vq, h6.keep k, own_below h7 k, own_below h8 k⟩

set_option maxRecDepth 100000 in
set_option maxHeartbeats 8000000 in
theorem parse_ok (s : ByteArray) (w : World) (hs : s.size ≤ 140737488355327) (h8 : 6 ≤ w.heap.size) (hg : Glob w) :
    Calls Tryz.prog 6 #[.string s] w fun e w' => PsM w e w' (parseM s) := by
  obtain ⟨M, hM⟩ : ∃ M, parseM s = M := ⟨_, rfl⟩
  rw [hM]
  have HM := hd hM
  have HG := hd hg
  have HS := hd hs
  clear hM hg hs
  go_enter Tryz.func6, Tryz.ntmps6
  go_wp2_with fail
  have A1 := Bk.new w 28 #[Value.slice none 0 0, Value.slice none 0 0]
  have B1 := below1 w (Obj.cells #[Value.slice none 0 0, Value.slice none 0 0] 28)
  generalize w.alloc (Obj.cells #[Value.slice none 0 0, Value.slice none 0 0] 28) = w1 at *
  obtain ⟨pb, hpb⟩ : ∃ pb, w.heap.size = pb := ⟨_, rfl⟩
  have HPB := hd hpb
  rw [hpb] at A1 h8 ⊢
  go_loopw [0, 5] (fun a i wr => ∃ (r : ByteArray) (k f : Nat) (st : PolD), a = .string r ∧ i = .int .i64 (k : Int) ∧ r.size ≤ f ∧ k + r.size ≤ s.size + 1 ∧ PolB pb pb wr st ∧ Below w.heap.size w wr ∧ parseF f k st r = M) (fun a _ _ => lenOf' a)
  case atStart => exact ⟨s, 1, s.size, ([], []), rfl, rfl, Nat.le_refl _, by omega, ⟨Nat.le_refl _, .nil, .nil, Nat.zero_le _, Nat.zero_le _, _, _, A1, ⟨rfl, Or.inl ⟨rfl, rfl⟩⟩, ⟨rfl, Or.inl ⟨rfl, rfl⟩⟩⟩, B1, HM.out⟩
  case round =>
    obtain ⟨r, k, f, st, rfl, rfl, hf, hk, hp, hb, he⟩ := hrel
    have HP := hd hp
    have HB := hd hb
    have he := hd he
    have HK := hd hk
    clear hp hb A1 B1 hk
    by_cases h0 : r.size = 0
    · have hr : r = ⟨#[]⟩ := by
        obtain ⟨⟨l⟩⟩ := r
        have : l.length = 0 := h0
        rw [List.eq_nil_of_length_eq_zero this]
      have HMM : Hid (M = (some st, 0)) := hd (by rw [← he.out]; exact parseF_nil f k st r h0)
      subst hr
      obtain ⟨hp1, hp2, hp3, hp4, hp5, vr, vq, hbk, ho1, ho2⟩ := HP.out
      obtain ⟨x1, n1, cap1, rfl⟩ := own_form ho1
      obtain ⟨x2, n2, cap2, rfl⟩ := own_form ho2
      have HO1 := hd ho1
      have HO2 := hd ho2
      have HBK := hd hbk
      have HT := hd hp2
      have HT2 := hd hp3
      have c0 := hbk.cell 0
      have c1 := hbk.cell 1
      have f0 := hbk.fz 0
      have f1 := hbk.fz 1
      simp at c0 c1
      clear ho1 ho2 hbk he hp2 hp3 hf h0
      go_wp2_with fail
      try simp only [Exit.inBlock, Exit.then]
      refine bodyPost_ret (res_pol rfl _ _ pb _ rfl ((HBK.out.set 0 _).set 1 _) rfl) rfl ?_
      rw [HMM.out]
      refine ⟨_, _, rfl, ?_, below_setCell (below_setCell HB.out ⟨pb, 0, none⟩ _ (by rw [HPB.out]; exact Nat.le_refl _)) ⟨pb, 1, none⟩ _ (by rw [HPB.out]; exact Nat.le_refl _)⟩
      rw [HPB.out]
      refine ⟨HT.out, HT2.out, hp4, hp5, ?_, ?_⟩
      · exact own_set (own_set HO1.out HBK.out (by decide) 0 _) (HBK.out.set 0 _) (by decide) 1 _
      · exact own_set (own_set HO2.out HBK.out (by decide) 0 _) (HBK.out.set 0 _) (by decide) 1 _
    · have hse := str_some' (s := r) (by omega)
      obtain ⟨f, rfl⟩ : ∃ f', f = f' + 1 := ⟨f - 1, by omega⟩
      have h0' := h0
      have HR0 := hd h0
      have HF := hd hf
      have hk1 : IntKind.i64.wrap ((k : Int) + 1) = ((k + 1 : Nat) : Int) := by
        have := HS.out
        have := HK.out
        rw [wrap_small _ (by omega) (by omega)]; omega
      clear hf h0
      rcases firstIdx_cases' r 10 with hi | ⟨i, hil, hi⟩
      · have HI := hd hi
        have HE : Hid ((match heedM st (r) with | none => (none, k) | some st' => parseF f (k + 1) st' (⟨#[]⟩)) = M) := hd (by rw [← he.out]; exact (parseF_miss h0' hi).symm)
        clear he hi
        go_wp2_with fail
        refine (cut_missN r _ HI.out).mono ?_
        rintro e w2 ⟨rfl, n, rfl⟩
        have B2 : Below wr.heap.size wr (wr.drewN n) := below_drewN (Below.refl _ _) n
        generalize wr.drewN n = w2 at *
        have P2 := hd (HP.out.keep B2)
        have HB2 := hd (below_below HB.out B2)
        clear B2
        go_wp2_with fail
        refine (heed_ok (r) P2.out (by have := HS.out; have := HK.out; omega) h8 (HG.out.keep HB2.out)).mono ?_
        rintro e w3 ⟨ok, rfl, hb3, ⟨vr3, vq3, hbk⟩, hm⟩
        have HB3 := hd (HB2.out.trans (by rw [HPB.out]; exact hb3))
        have HE := HE
        cases hh : heedM st (r) with
        | none =>
          rw [hh] at hm
          obtain rfl : ok = false := hm
          have HMM : Hid (M = (none, k)) := hd (by have h := HE.out; rw [hh] at h; exact h.symm)
          have f0 := hbk.fz 0
          have f1 := hbk.fz 1
          have c0 := hbk.cell 0
          have c1 := hbk.cell 1
          simp at c0 c1
          have HBK := hd hbk
          clear hbk hh HE hb3
          go_wp2_with fail
          try simp only [Exit.inBlock, Exit.then]
          refine bodyPost_ret (res_pol rfl _ _ pb _ rfl ((HBK.out.set 0 _).set 1 _) rfl) rfl ?_
          rw [HMM.out]
          exact ⟨rfl, below_setCell (below_setCell HB3.out ⟨pb, 0, none⟩ _ (by rw [HPB.out]; exact Nat.le_refl _)) ⟨pb, 1, none⟩ _ (by rw [HPB.out]; exact Nat.le_refl _)⟩
        | some st' =>
          rw [hh] at hm
          obtain ⟨rfl, hp3⟩ := hm
          have HP3 := hd hp3
          have HE3 : Hid (parseF f (k + 1) st' (⟨#[]⟩) = M) := hd (by have h := HE.out; rw [hh] at h; exact h)
          clear hbk hh HE hb3 hp3
          go_wp2_with fail
          go_roundw
          case rel => exact ⟨⟨#[]⟩, k + 1, f, st', rfl, by go_num, Nat.zero_le _, (by have := HK.out; have := HR0.out; show k + 1 + 0 ≤ _; omega), HP3.out, HB3.out, HE3.out⟩
          case measure => exact Nat.pos_of_ne_zero HR0.out
      · have HI := hd hi
        have HIL := hd hil
        obtain ⟨rn, hrn⟩ : ∃ rn, r.size = rn := ⟨_, rfl⟩
        have HRN := hd hrn
        clear hil hrn
        have HE : Hid ((match heedM st (r.extract 0 i) with | none => (none, k) | some st' => parseF f (k + 1) st' (r.extract (i + 1) rn)) = M) := hd (by rw [← he.out]; rw [← HRN.out]; exact (parseF_hit h0' hi).symm)
        clear he hi
        go_wp2_with fail
        refine (cut_hitN r i (i + 1) rn _ rfl HI.out HRN.out (by have := HIL.out; have := HRN.out; omega) (by have := HS.out; have := HK.out; have := HRN.out; omega)).mono ?_
        rintro e w2 ⟨rfl, n, rfl⟩
        have B2 : Below wr.heap.size wr (wr.drewN n) := below_drewN (Below.refl _ _) n
        generalize wr.drewN n = w2 at *
        have P2 := hd (HP.out.keep B2)
        have HB2 := hd (below_below HB.out B2)
        clear B2
        go_wp2_with fail
        refine (heed_ok (r.extract 0 i) P2.out (by rw [ByteArray.size_extract]; have := HS.out; have := HK.out; omega) h8 (HG.out.keep HB2.out)).mono ?_
        rintro e w3 ⟨ok, rfl, hb3, ⟨vr3, vq3, hbk⟩, hm⟩
        have HB3 := hd (HB2.out.trans (by rw [HPB.out]; exact hb3))
        have HE := HE
        cases hh : heedM st (r.extract 0 i) with
        | none =>
          rw [hh] at hm
          obtain rfl : ok = false := hm
          have HMM : Hid (M = (none, k)) := hd (by have h := HE.out; rw [hh] at h; exact h.symm)
          have f0 := hbk.fz 0
          have f1 := hbk.fz 1
          have c0 := hbk.cell 0
          have c1 := hbk.cell 1
          simp at c0 c1
          have HBK := hd hbk
          clear hbk hh HE hb3
          go_wp2_with fail
          try simp only [Exit.inBlock, Exit.then]
          refine bodyPost_ret (res_pol rfl _ _ pb _ rfl ((HBK.out.set 0 _).set 1 _) rfl) rfl ?_
          rw [HMM.out]
          exact ⟨rfl, below_setCell (below_setCell HB3.out ⟨pb, 0, none⟩ _ (by rw [HPB.out]; exact Nat.le_refl _)) ⟨pb, 1, none⟩ _ (by rw [HPB.out]; exact Nat.le_refl _)⟩
        | some st' =>
          rw [hh] at hm
          obtain ⟨rfl, hp3⟩ := hm
          have HP3 := hd hp3
          have HE3 : Hid (parseF f (k + 1) st' (r.extract (i + 1) rn) = M) := hd (by have h := HE.out; rw [hh] at h; exact h)
          clear hbk hh HE hb3 hp3
          go_wp2_with fail
          go_roundw
          case rel => exact ⟨r.extract (i + 1) rn, k + 1, f, st', rfl, by go_num, (by rw [ByteArray.size_extract]; have := HF.out; have := HRN.out; have := HIL.out; omega), (by rw [ByteArray.size_extract]; have := HK.out; have := HIL.out; have := HRN.out; omega), HP3.out, HB3.out, HE3.out⟩
          case measure => (show (r.extract (i + 1) rn).size < r.size; rw [ByteArray.size_extract]; have := HIL.out; have := HRN.out; omega)

end Go.Proofs.YtcigbfjmnhogiabGreatDoor
