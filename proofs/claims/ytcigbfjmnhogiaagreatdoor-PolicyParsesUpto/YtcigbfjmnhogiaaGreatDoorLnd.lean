/- The document's line. -/
import Derived.Test.YtcigbfjmnhogiaaGreatDoorDcm
import Derived.Test.YtcigbfjmnhogiaaGreatDoorSpx
import Derived.Test.YtcigbfjmnhogiaaGreatDoorCp
import Derived.Test.YtcigbfjmnhogiaaGreatDoorOpn
import Derived.Test.YtcigbfjmnhogiaaGreatDoorHd
import Derived.Test.YtcigbfjmnhogiaaGreatDoorWr
import Derived.Test.YtcigbfjmnhogiaaGreatDoorEal
import Derived.Test.YtcigbfjmnhogiaaGreatDoorOpm
import Derived.Deep.RegionHeld3
import Derived.BigQuiet
namespace Go.Proofs.YtcigbfjmnhogiaaGreatDoor
open Go.RowKit
set_option linter.unusedVariables false

theorem step_append_run {P : Program} {ops : Array Oper} {o : Oper} {a : Act} {w : World} {K : Act → World → Prop} {Q : Exit → Act → World → Prop} {E : Prop}
    (hg : o.guard = none) (s x : Operand) (t : TypeId) (hop : o.op = Op.call { callee := Callee.builtin Builtin.append, args := #[s, x], argTypes := #[t, t] })
    (vs vx : Value) (hs : a.eval s = vs) (hx : a.eval x = vx) (v' : Value) (w' : World) (hrun : (Builtin.append_ #[t, t] o.type #[vs, vx]).run P w = .ok v' w')
    (hK : K (a.put o.dst v') w') : if Region.wanted o (yielded ops a.tmps) = true then Oper.wp P o a w K Q else E := by
  have hw : Region.wanted o (yielded ops a.tmps) = true := by simp [Region.wanted, hg]
  rw [if_pos hw]
  unfold Oper.wp
  simp [execOp, hop, resolve, invoke, builtin, hs, hx, hrun, Result.andThen]
  exact hK

/-- While line puts a rule, a reader in its place. -/
def PG (w8 : World) (W : World) : Prop := Below w8.heap.size w8 W
def GR (w8 : World) (T1 T2 T3 : List RuleD) (r : RuleD) (L : Nat → Bool) (vs : List Value) (W : World) : Prop :=
  PG w8 W ∧ (if L 18 then OwR w8.heap.size W (vs.getD 18 undef) T3 else if L 11 then OwR w8.heap.size W (vs.getD 11 undef) T2 else if L 8 then OwR w8.heap.size W (vs.getD 8 undef) T1 else True) ∧ (L 10 = true → L 11 = false → El encR 3 W (vs.getD 10 undef) [r])
def GQ (w8 : World) (T1 T2 T3 : List ReaderD) (r : ReaderD) (L : Nat → Bool) (vs : List Value) (W : World) : Prop :=
  PG w8 W ∧ (if L 18 then OwQ w8.heap.size W (vs.getD 18 undef) T3 else if L 11 then OwQ w8.heap.size W (vs.getD 11 undef) T2 else if L 8 then OwQ w8.heap.size W (vs.getD 8 undef) T1 else True) ∧ (L 10 = true → L 11 = false → El encQ 5 W (vs.getD 10 undef) [r])
theorem if3 {p q r : Bool} {a b c a' b' c' : Prop} (h : if p then a else if q then b else if r then c else True) (ha : a → a') (hb : b → b') (hc : c → c') : if p then a' else if q then b' else if r then c' else True := by
  cases p
  · cases q
    · cases r
      · trivial
      · exact hc h
    · exact hb h
  · exact ha h
section
variable {p q r : Bool} {a b c : Prop}
theorem if3_mk1 (hp : p = false) (hq : q = false) (hr : r = true) (h : c) : if p then a else if q then b else if r then c else True := by subst hp hq hr; exact h
theorem if3_mk2 (hp : p = false) (hq : q = true) (h : b) : if p then a else if q then b else if r then c else True := by subst hp hq; exact h
theorem if3_mk3 (hp : p = true) (h : a) : if p then a else if q then b else if r then c else True := by subst hp; exact h
theorem if3_e1 (h : if p then a else if q then b else if r then c else True) (hp : p = false) (hq : q = false) (hr : r = true) : c := by subst hp hq hr; exact h
theorem if3_e2 (h : if p then a else if q then b else if r then c else True) (hp : p = false) (hq : q = true) : b := by subst hp hq; exact h
theorem if3_e3 (h : if p then a else if q then b else if r then c else True) (hp : p = true) : a := by subst hp; exact h
end
theorem own_lower {B B' : Nat} {w : World} {t : TypeId} {k n : Nat} {v : Value} {xs : List Value} (h : w.ownsRow B' t k v n xs) (hB : B ≤ B') : w.ownsRow B t k v n xs := by
  obtain ⟨h1, h2⟩ := h
  refine ⟨h1, ?_⟩
  rcases h2 with h2 | ⟨g, cap, cur, h3, h4, h5⟩
  · exact Or.inl h2
  · exact Or.inr ⟨g, cap, cur, h3, Nat.le_trans hB h4, h5⟩
theorem nlist {lm : List Oper} {L : Nat → Bool} {i d : Nat} {o : Oper} (hcl : ∀ (j : Nat) (oj : Oper) (d : Nat), lm[j]? = some oj → L j = true → waits oj d = true → L d = true) (hi : lm[i]? = some o) (hw : waits o d = true) (hd : L d = false) : L i = false := by
  cases h : L i
  · rfl
  · have := hcl i o d hi h hw
    rw [hd] at this
    cases this
/-- Block pb holds a policy of these rules and readers, wherever its rows lie. -/
def PolE (w : World) (pb : Nat) (st : PolD) : Prop := ∃ B vr vq, Bk w pb 25 #[vr, vq] ∧ OwR B w vr st.1 ∧ OwQ B w vq st.2 ∧ pb < B ∧ B ≤ w.heap.size
section
variable {α : Type} {enc : α → List Value} {k : Nat}
theorem el_takeP {W : World} {g off n cap t : Nat} {xs : List α} (h : El enc k W (.slice (some ⟨g, off, none⟩) n cap) xs) (hn : xs.length = n) (ht : t ≤ n) : El enc k W (.slice (some ⟨g, off, none⟩) t cap) (xs.take t) := by
  have hl : (xs.take t).length = t := by rw [List.length_take]; omega
  rcases h with ⟨rfl, x, c, hv⟩ | ⟨g', off', cap', hv, h2, h3, h4, h5⟩
  · simp at hn
    subst hn
    obtain rfl : t = 0 := by omega
    exact Or.inl ⟨rfl, _, _, rfl⟩
  · simp only [Value.slice.injEq, Option.some.injEq, Addr.mk.injEq, and_true] at hv
    obtain ⟨⟨e1, e2⟩, e3, e4⟩ := hv
    subst e1 e2 e4
    refine Or.inr ⟨g, off, cap, by rw [hl], by omega, by omega, h4, fun j hj i u hu => ?_⟩
    rw [List.getElem_take] at hu
    exact h5 j (by omega) i u hu
theorem el_dropP {W : World} {g off n cap t : Nat} {xs : List α} (h : El enc k W (.slice (some ⟨g, off, none⟩) n cap) xs) (hn : xs.length = n) (ht : t ≤ n) : El enc k W (.slice (some ⟨g, off + t * k, none⟩) (n - t) (cap - t)) (xs.drop t) := by
  have hl : (xs.drop t).length = n - t := by rw [List.length_drop]; omega
  rcases h with ⟨rfl, x, c, hv⟩ | ⟨g', off', cap', hv, h2, h3, h4, h5⟩
  · simp at hn
    subst hn
    refine Or.inl ⟨by simp, some ⟨g, off + t * k, none⟩, cap - t, ?_⟩
    rw [Nat.zero_sub]
  · simp only [Value.slice.injEq, Option.some.injEq, Addr.mk.injEq, and_true] at hv
    obtain ⟨⟨e1, e2⟩, e3, e4⟩ := hv
    subst e1 e2 e4
    refine Or.inr ⟨g, off + t * k, cap - t, by rw [hl], by omega, by omega, h4, fun j hj i u hu => ?_⟩
    rw [List.getElem_drop] at hu
    have := h5 (t + j) (by omega) i u hu
    rw [Nat.add_mul] at this
    rw [show off + t * k + j * k + i = off + (t * k + j * k) + i by omega]
    exact this
end
/-- How line ends. -/
def LnEnd (w : World) (pb : Nat) (st : PolD) (l : ByteArray) (e : Ending) (w' : World) : Prop :=
  ∃ ok, e = .returned (.bool ok) ∧ Kp (fun k => k = pb) w w' ∧ (match heedM st l with | some st' => ok = true ∧ PolE w' pb st' | none => ok = false)

/-- A piece is no longer than the whole. -/
theorem cut_mem_len {c : UInt8} : ∀ {l x : List UInt8}, x ∈ cutL c l → x.length ≤ l.length
  | [], x, h => by simp [cutL] at h; simp [h]
  | b :: t, x, h => by
    unfold cutL at h
    split at h
    · rcases List.mem_cons.1 h with rfl | h
      · simp
      · have := cut_mem_len h
        simp
        omega
    · split at h
      · rename_i he
        exact absurd he (cutL_ne c t)
      · rename_i y r he
        rcases List.mem_cons.1 h with rfl | h
        · have := cut_mem_len (c := c) (l := t) (x := y) (by rw [he]; simp)
          simp
          omega
        · have := cut_mem_len (c := c) (l := t) (x := x) (by rw [he]; exact List.mem_cons_of_mem _ h)
          simp
          omega
/-- Lines that say nothing that a rule or a reader would. -/
theorem heed_other {st : PolD} {l : ByteArray} {ps : List ByteArray} (hv : (l.size == 0 || isRem l) = false) (hp : (cutL 32 l.data.toList).map tB = ps)
    (h3 : ps.length = 3 → (hdW ps).data.toList ≠ wRule) (h5 : ps.length = 5 → (hdW ps).data.toList ≠ wReader) : heedM st l = none := by
  cases hh : heedM st l with
  | none => rfl
  | some st' =>
    exfalso
    have e : tB l.data.toList = l := tB_of l
    unfold heedM at hh
    rw [hv] at hh
    simp only [Bool.false_eq_true, if_false] at hh
    cases hl : lineP (splW 5 l) with
    | none => rw [hl] at hh; cases hh
    | some q =>
      rw [← e] at hl
      cases q with
      | inl r =>
        obtain ⟨hg, hs⟩ := lineP_invR hl
        have h1 := spl_all hs (by simp [wdR])
        have h2 : cutL 32 l.data.toList = wdR r := by rw [h1]; exact lnR_cut hg.1
        rw [h2] at hp
        subst hp
        exact h3 rfl rfl
      | inr r =>
        obtain ⟨hg, hs⟩ := lineP_invQ hl
        have h1 := spl_all hs (by simp [wdQ])
        have h2 : cutL 32 l.data.toList = wdQ r := by rw [h1]; exact lnQ_cut hg.1
        rw [h2] at hp
        subst hp
        exact h5 rfl rfl
theorem spl_few {l : ByteArray} {ps : List ByteArray} (hp : (cutL 32 l.data.toList).map tB = ps) (h : ps.length ≤ 6) : splW 5 l = ps := by
  have h1 := splW_cut 5 l.data.toList (by rw [← hp, List.length_map] at h; exact h)
  rw [tB_of, hp] at h1
  exact h1
/-- A rule's line. -/
theorem heed_ruleL {st : PolD} {l p0 a b : ByteArray} (hv : (l.size == 0 || isRem l) = false) (hp : (cutL 32 l.data.toList).map tB = [p0, a, b]) (h0 : p0.data.toList = wRule) :
    heedM st l = match rdL b with
      | some (x, p) => if isNm a && (!has (α := RuleD) Prod.fst a st.1 && decide (st.1.length < 64)) then some (ins (α := RuleD) Prod.fst (a, (x : Int), (p : Int)) st.1, st.2) else none
      | none => none := by
  unfold heedM
  rw [hv, spl_few hp (by simp)]
  have e : lineP [p0, a, b] = if (ruleP [a, b]).2 then some (.inl (ruleP [a, b]).1) else none := by
    unfold lineP
    have : (hdW [p0, a, b]).data.toList = wRule := h0
    rw [this]
    simp
  rw [e]
  have e2 : ruleP [a, b] = match rdL b with | some (x, p) => ((a, (x : Int), (p : Int)), isNm a) | none => ((a, 0, 0), false) := rfl
  rw [e2]
  cases rdL b with
  | none => rfl
  | some q =>
    obtain ⟨x, p⟩ := q
    cases hn : isNm a
    · rfl
    · simp
theorem heed_readerL {st : PolD} {l p0 a b c d : ByteArray} (hv : (l.size == 0 || isRem l) = false) (hp : (cutL 32 l.data.toList).map tB = [p0, a, b, c, d]) (h0 : p0.data.toList = wReader) :
    heedM st l = match rdL b, numP c, numP d with
      | some (x, p), some k, some m => if okReader (a, (x : Int), (p : Int), k, m) && (!has (α := ReaderD) Prod.fst a st.2 && decide (st.2.length < 16)) then some (st.1, ins (α := ReaderD) Prod.fst (a, (x : Int), (p : Int), k, m) st.2) else none
      | _, _, _ => none := by
  unfold heedM
  rw [hv, spl_few hp (by simp)]
  have e : lineP [p0, a, b, c, d] = match rdrP [a, b, c, d] with | some q => some (.inr q) | none => none := by
    unfold lineP
    have : (hdW [p0, a, b, c, d]).data.toList = wReader := h0
    rw [this]
    rfl
  rw [e]
  have e2 : rdrP [a, b, c, d] = match rdL b, numP c, numP d with
    | some (x, p), some k, some m => if okReader (a, (x : Int), (p : Int), k, m) then some (a, (x : Int), (p : Int), k, m) else none
    | _, _, _ => none := rfl
  rw [e2]
  cases rdL b with
  | none => rfl
  | some q =>
    obtain ⟨x, p⟩ := q
    cases numP c with
    | none => rfl
    | some k =>
      cases numP d with
      | none => rfl
      | some m =>
        simp only
        cases hn : okReader (a, (x : Int), (p : Int), k, m)
        · rfl
        · simp
theorem rread_ex (s : ByteArray) (hs : s.size ≤ 140737488355328) : ∃ (X P E : Int), (∀ w, Calls Tryz.prog 82 #[.string s] w fun e w' => VEnd w (.tuple #[.agg #[.int .i64 X, .int .u32 P], .int .i64 E]) e w') ∧
    ((E = 0 ∧ ∃ x p : Nat, rdL s = some (x, p) ∧ X = (x : Int) ∧ P = (p : Int)) ∨ (E = 4 ∧ rdL s = none)) := by
  obtain ⟨X, P, E, h, _⟩ := vread_any s hs
  refine ⟨X, P, E, fun w => rread_is s X P E hs h w, ?_⟩
  rcases h with ⟨x, p, hx, hp, rfl, rfl, rfl, rfl⟩ | ⟨hn, rfl, rfl, rfl⟩
  · exact Or.inl ⟨rfl, x, p, rdL_text x p hx hp, rfl, rfl⟩
  · refine Or.inr ⟨rfl, ?_⟩
    cases hh : rdL s with
    | none => rfl
    | some q =>
      obtain ⟨x, p⟩ := q
      obtain ⟨h1, h2, h3⟩ := rdL_some hh
      exact absurd h3 (hn x p h1 h2)
variable {α : Type} {nm : α → ByteArray} in
theorem pos_step {xs : List α} (h : Srt nm xs) (n : ByteArray) {k : Nat} (hk : k < xs.length) : pos nm n (xs.take (k + 1)) = if lts (nm xs[k]) n then k + 1 else pos nm n (xs.take k) := by
  have e : xs.take (k + 1) = xs.take k ++ [xs[k]] := List.take_succ_eq_append_getElem hk
  unfold pos
  rw [e, List.countP_append]
  cases hl : lts (nm xs[k]) n
  · simp [hl]
  · have hall : (xs.take k).countP (fun y => lts (nm y) n) = (xs.take k).length := by
      rw [List.countP_eq_length]
      intro y hy
      obtain ⟨i, hi, rfl⟩ := List.getElem_of_mem hy
      rw [List.length_take] at hi
      rw [List.getElem_take]
      exact lts_trans (h.get (by omega) hk) hl
    rw [hall, List.length_take, Nat.min_eq_left (by omega)]
    simp [hl]
theorem lts_toList (s t : ByteArray) : Op.bytesLess s.toList t.toList = lts s t := by
  unfold lts
  rw [ByteArray.toList_eq, ByteArray.toList_eq]

set_option maxRecDepth 100000 in
set_option maxHeartbeats 4000000 in
theorem line_other {w : World} {pb : Nat} {st : PolD} {l : ByteArray} {ps : List ByteArray} (hB : pb < w.heap.size) (hz : l.size ≤ 2000000) (hv : (l.size == 0 || isRem l) = false) (hp : (cutL 32 l.data.toList).map tB = ps)
    (h3 : ps.length = 3 → (hdW ps).data.toList ≠ wRule) (h5 : ps.length = 5 → (hdW ps).data.toList ≠ wReader) :
    Calls Tryz.prog 53 #[.pointer (some ⟨pb, 0, none⟩), .string l] w fun e w' => LnEnd w pb st l e w' := by
  have HH := hd (heed_other (st := st) hv hp h3 h5)
  have SP := hd fun w => splitS l w (by omega) (by
    have h1 : l.data.toList.count 32 ≤ l.data.toList.length := List.count_le_length
    have h2 : l.data.toList.length = l.size := by simp
    omega)
  rw [hp] at SP
  have HB := hd hB
  obtain ⟨n, hn⟩ : ∃ n, ps.length = n := ⟨_, rfl⟩
  have hfirst : ∀ hn0 : 0 < ps.length, hdW ps = ps[0] := fun hn0 => by
    cases ps with
    | nil => simp at hn0
    | cons a t => rfl
  have HF := hd hfirst
  have H3 := hd h3
  have H5 := hd h5
  have HN := hd hn
  clear hB hz hv hp hfirst h3 h5
  go_enter Tryz.func53, Tryz.ntmps53
  go_wp2_with fail
  refine (SP.out w).mono ?_
  rintro e w1 ⟨v, rfl, ⟨g, rfl, hb⟩, hk⟩
  have HK := hd (Kp.below (S := fun k => k = pb) hk)
  rw [hn]
  clear hk
  by_cases e3 : n = 3
  · subst e3
    have c0 := hb.cell 0
    rw [List.getElem?_toArray, List.getElem?_map, List.getElem?_eq_getElem (by omega), ← HF.out (by omega)] at c0
    simp only [Option.map_some] at c0
    obtain ⟨p0, hp0⟩ : ∃ p0, hdW ps = p0 := ⟨_, rfl⟩
    have hne : (p0.toList == [114, 117, 108, 101]) = false := by
      rw [beq_eq_false_iff_ne, ByteArray.toList_eq, ← hp0]
      exact H3.out HN.out
    rw [hp0] at c0
    clear hb hn hp0
    go_wp2_with fail
    go_ret
    refine ⟨false, rfl, HK.out, ?_⟩
    rw [HH.out]
  · have z3 : ((n : Int) == 3) = false := by rw [beq_eq_false_iff_ne]; omega
    by_cases e5 : n = 5
    · subst e5
      have c0 := hb.cell 0
      rw [List.getElem?_toArray, List.getElem?_map, List.getElem?_eq_getElem (by omega), ← HF.out (by omega)] at c0
      simp only [Option.map_some] at c0
      obtain ⟨p0, hp0⟩ : ∃ p0, hdW ps = p0 := ⟨_, rfl⟩
      have hne : (p0.toList == [114, 101, 97, 100, 101, 114]) = false := by
        rw [beq_eq_false_iff_ne, ByteArray.toList_eq, ← hp0]
        exact H5.out HN.out
      rw [hp0] at c0
      clear hb hn hp0
      go_wp2_with fail
      go_ret
      refine ⟨false, rfl, HK.out, ?_⟩
      rw [HH.out]
    · have z5 : ((n : Int) == 5) = false := by rw [beq_eq_false_iff_ne]; omega
      have z5' : ((n : Int) != 5) = true := by rw [bne_iff_ne]; omega
      clear hb hn
      go_wp2_with fail
      go_ret
      refine ⟨false, rfl, HK.out, ?_⟩
      rw [HH.out]

end Go.Proofs.YtcigbfjmnhogiaaGreatDoor
