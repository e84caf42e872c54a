/- Batches as data: what they are written as, and how they are read (no seat needed but for the names of what stands below). Batches: the document's reader; spans in another order, one less; others that are as long. Batches: the closed law's, and the chapter's example. How much what came in weighs, at every depth; slices in slices. The program's reader of batches: names with up to 64 bytes; it tells what parseB tells. -/
import Derived.Test.YteifaipbckhoiabMh
import Derived.Test.YteifaipbckhoiabMe
import Derived.Deep.Slices
import Derived.ChangeSame
import Derived.SizedLaws
import Derived.DataReads
namespace Go.Proofs.Yteifaipbckhoiab
open Go.RowKit
set_option linter.unusedVariables false

structure SpanD where
  tr : Int
  sid : Int
  pa : Int
  st : Int
  ln : Int
  sv : ByteArray
  op : ByteArray
  sb : ByteArray
  ats : List AttrD
deriving DecidableEq
/-- May the span be? -/
def okS (s : SpanD) : Bool :=
  decide (1 ≤ s.tr ∧ s.tr ≤ 9007199254740991) && decide (1 ≤ s.sid ∧ s.sid ≤ 9007199254740991) && decide (0 ≤ s.pa ∧ s.pa ≤ 9007199254740991) && decide (0 ≤ s.st ∧ s.st ≤ 9007199254740991) && decide (0 ≤ s.ln ∧ s.ln ≤ 9007199254740991)
    && decide (s.st + s.ln ≤ 9007199254740991) && isNm s.sv && isNm s.op && decide (s.sb.size ≤ 64) && okAs s.ats
structure BatchD where
  ag : Int
  sq : Int
  sp : List SpanD
deriving DecidableEq
def txB (s : ByteArray) : List Int := Num.enc s.size ++ bytesOf s
def spanB (s : SpanD) : List Int :=
  Num.enc s.tr ++ (Num.enc s.sid ++ (Num.enc s.pa ++ (Num.enc s.st ++ (Num.enc s.ln ++ (txB s.sv ++ (txB s.op ++ (txB s.sb ++ listB s.ats)))))))
def spsB : List SpanD → List Int
  | [] => []
  | a :: t => spanB a ++ spsB t
def batB (b : BatchD) : List Int := Num.enc b.ag ++ (Num.enc b.sq ++ (Num.enc b.sp.length ++ spsB b.sp))
/-- May the batch be? -/
def okB (b : BatchD) : Bool :=
  decide (1 ≤ b.ag ∧ b.ag ≤ 16) && decide (1 ≤ b.sq ∧ b.sq ≤ 9007199254740991) && decide (1 ≤ b.sp.length ∧ b.sp.length ≤ 16) && b.sp.all okS && decide ((batB b).length ≤ 8192)
/-- Labels' parts are 32 bits. -/
def WfS (s : SpanD) : Prop := ∀ a ∈ s.ats, WfA a
def WfB (b : BatchD) : Prop := ∀ s ∈ b.sp, WfS s

/-- What a span that may be written has. -/
structure Fit (s : SpanD) : Prop where
  tr : 0 ≤ s.tr ∧ s.tr ≤ 9007199254740991
  sid : 0 ≤ s.sid ∧ s.sid ≤ 9007199254740991
  pa : 0 ≤ s.pa ∧ s.pa ≤ 9007199254740991
  st : 0 ≤ s.st ∧ s.st ≤ 9007199254740991
  ln : 0 ≤ s.ln ∧ s.ln ≤ 9007199254740991
  sv : s.sv.size ≤ 24
  op : s.op.size ≤ 24
  sb : s.sb.size ≤ 64
  ats : okAs s.ats = true
  wf : WfS s
theorem okS_parts {s : SpanD} (h : okS s = true) : (1 ≤ s.tr ∧ s.tr ≤ 9007199254740991) ∧ (1 ≤ s.sid ∧ s.sid ≤ 9007199254740991) ∧ (0 ≤ s.pa ∧ s.pa ≤ 9007199254740991) ∧ (0 ≤ s.st ∧ s.st ≤ 9007199254740991) ∧ (0 ≤ s.ln ∧ s.ln ≤ 9007199254740991)
    ∧ s.st + s.ln ≤ 9007199254740991 ∧ isNm s.sv = true ∧ isNm s.op = true ∧ s.sb.size ≤ 64 ∧ okAs s.ats = true := by
  unfold okS at h
  simp only [Bool.and_eq_true, decide_eq_true_eq] at h
  obtain ⟨⟨⟨⟨⟨⟨⟨⟨⟨h1, h2⟩, h3⟩, h4⟩, h5⟩, h6⟩, h7⟩, h8⟩, h9⟩, h10⟩ := h
  exact ⟨h1, h2, h3, h4, h5, h6, h7, h8, h9, h10⟩
theorem Fit.of {s : SpanD} (h : okS s = true) (hw : WfS s) : Fit s := by
  obtain ⟨h1, h2, h3, h4, h5, h6, h7, h8, h9, h10⟩ := okS_parts h
  exact ⟨⟨by omega, h1.2⟩, ⟨by omega, h2.2⟩, h3, h4, h5, (isNm_size h7).2, (isNm_size h8).2, h9, h10, hw⟩

/-! Reading, as the package's reader does. -/
def rdS (l : List Int) (e : Int) : SpanD × List Int × Int :=
  let a := uStep 9007199254740991 l e
  let b := uStep 9007199254740991 a.2.1 a.2.2
  let c := uStep 9007199254740991 b.2.1 b.2.2
  let d := uStep 9007199254740991 c.2.1 c.2.2
  let f := uStep 9007199254740991 d.2.1 d.2.2
  let g := bStep (textR 24 f.2.1) f.2.1 f.2.2
  let h := bStep (textR 24 g.2.1) g.2.1 g.2.2
  let k := bStep (textR 64 h.2.1) h.2.1 h.2.2
  let x := takeAs k.2.1 k.2.2
  (⟨a.1, b.1, c.1, d.1, f.1, strOfNums g.1, strOfNums h.1, strOfNums k.1, x.1⟩, x.2.1, x.2.2)
def rdN : Nat → List Int → Int → List SpanD × List Int × Int
  | 0, l, e => ([], l, e)
  | n + 1, l, e => if e ≠ 0 then ([], l, e) else ((rdS l e).1 :: (rdN n (rdS l e).2.1 (rdS l e).2.2).1, (rdN n (rdS l e).2.1 (rdS l e).2.2).2)

theorem tx_back (most : Int) (s : ByteArray) (r : List Int) (h : (s.size : Int) ≤ most) (hm : most ≤ 9007199254740991) : bStep (textR most (txB s ++ r)) (txB s ++ r) 0 = (bytesOf s, r, 0) :=
  t_enc most (bytesOf s) r (by rw [bytesOf_length]; exact h) hm _ (by unfold txB; rw [bytesOf_length, List.append_assoc])
theorem rdS_back {s : SpanD} (h : Fit s) (r : List Int) : rdS (spanB s ++ r) 0 = (s, r, 0) := by
  obtain ⟨h1, h2, h3, h4, h5, h6, h7, h8, h9, h10⟩ := h
  obtain ⟨tr, sid, pa, st, ln, sv, op, sb, ats⟩ := s
  unfold spanB
  simp only [List.append_assoc] at *
  unfold rdS
  simp only
  rw [u_enc tr _ h1.1 h1.2]
  simp only
  rw [u_enc sid _ h2.1 h2.2]
  simp only
  rw [u_enc pa _ h3.1 h3.2]
  simp only
  rw [u_enc st _ h4.1 h4.2]
  simp only
  rw [u_enc ln _ h5.1 h5.2]
  simp only
  rw [tx_back 24 sv _ (by omega) (by decide)]
  simp only
  rw [tx_back 24 op _ (by omega) (by decide)]
  simp only
  rw [tx_back 64 sb _ (by omega) (by decide)]
  simp only
  rw [takeAs_back ats h9 h10 r, str_bytes, str_bytes, str_bytes]
theorem rdN_back : ∀ (xs : List SpanD), (∀ s ∈ xs, Fit s) → ∀ r : List Int, rdN xs.length (spsB xs ++ r) 0 = (xs, r, 0)
  | [], _, r => rfl
  | a :: t, h, r => by
    have ih := rdN_back t (fun b hb => h b (List.mem_cons_of_mem _ hb)) r
    show rdN (t.length + 1) ((spanB a ++ spsB t) ++ r) 0 = _
    rw [List.append_assoc]
    unfold rdN
    rw [if_neg (by simp), rdS_back (h a (List.mem_cons_self ..))]
    simp only
    rw [ih]

theorem takeAs_err {l l' : List Int} {xs : List AttrD} {e : Int} (h : takeAs l e = (xs, l', 0)) : e = 0 := by
  by_cases he : e = 0
  · exact he
  · unfold takeAs at h
    have e1 : uStep 9007199254740991 l e = (0, l, e) := by unfold uStep; rw [if_pos he]
    rw [e1] at h
    simp only at h
    rw [if_pos he] at h
    simp only [Prod.mk.injEq] at h
    exact absurd h.2.2 he
theorem u_top {most : Int} {l l' : List Int} {n e' : Int} (hm : 0 ≤ most) (hl : Byt l) (h : uStep most l 0 = (n, l', e')) : 0 ≤ n ∧ n ≤ most := by
  have hb := uStep_bd most l 0 hm hl
  rw [h] at hb
  exact hb
theorem tx_was {most : Int} {l l' bs : List Int} (hl : Byt l) (h : bStep (textR most l) l 0 = (bs, l', 0)) : l = txB (strOfNums bs) ++ l' ∧ ((strOfNums bs).size : Int) ≤ most := by
  have h1 := t_was hl h
  have h2 := (t_byt hl h).2
  have hz : (strOfNums bs).size = bs.length := by rw [← bytesOf_length, bytes_str bs h2]
  unfold txB
  rw [bytes_str bs h2, hz, List.append_assoc]
  exact h1
/-- What was read, was written so. -/
theorem rdS_was {l l' : List Int} {s : SpanD} {e : Int} (hl : Byt l) (h : rdS l e = (s, l', 0)) : e = 0 ∧ Fit s ∧ l = spanB s ++ l' ∧ Byt l' := by
  unfold rdS at h
  obtain ⟨a, l1, e1, q1⟩ : ∃ k z y, uStep 9007199254740991 l e = (k, z, y) := ⟨_, _, _, rfl⟩
  rw [q1] at h
  simp only at h
  obtain ⟨b, l2, e2, q2⟩ : ∃ k z y, uStep 9007199254740991 l1 e1 = (k, z, y) := ⟨_, _, _, rfl⟩
  rw [q2] at h
  simp only at h
  obtain ⟨c, l3, e3, q3⟩ : ∃ k z y, uStep 9007199254740991 l2 e2 = (k, z, y) := ⟨_, _, _, rfl⟩
  rw [q3] at h
  simp only at h
  obtain ⟨d, l4, e4, q4⟩ : ∃ k z y, uStep 9007199254740991 l3 e3 = (k, z, y) := ⟨_, _, _, rfl⟩
  rw [q4] at h
  simp only at h
  obtain ⟨f, l5, e5, q5⟩ : ∃ k z y, uStep 9007199254740991 l4 e4 = (k, z, y) := ⟨_, _, _, rfl⟩
  rw [q5] at h
  simp only at h
  obtain ⟨g, l6, e6, q6⟩ : ∃ k z y, bStep (textR 24 l5) l5 e5 = (k, z, y) := ⟨_, _, _, rfl⟩
  rw [q6] at h
  simp only at h
  obtain ⟨p, l7, e7, q7⟩ : ∃ k z y, bStep (textR 24 l6) l6 e6 = (k, z, y) := ⟨_, _, _, rfl⟩
  rw [q7] at h
  simp only at h
  obtain ⟨k, l8, e8, q8⟩ : ∃ k z y, bStep (textR 64 l7) l7 e7 = (k, z, y) := ⟨_, _, _, rfl⟩
  rw [q8] at h
  simp only at h
  obtain ⟨xs, l9, e9, q9⟩ : ∃ k z y, takeAs l8 e8 = (k, z, y) := ⟨_, _, _, rfl⟩
  rw [q9] at h
  simp only [Prod.mk.injEq] at h
  obtain ⟨rfl, rfl, rfl⟩ := h
  obtain rfl := takeAs_err q9
  obtain rfl := t_err q8
  obtain rfl := t_err q7
  obtain rfl := t_err q6
  obtain rfl := u_err q5
  obtain rfl := u_err q4
  obtain rfl := u_err q3
  obtain rfl := u_err q2
  obtain rfl := u_err q1
  have b1 := u_byt hl q1
  have b2 := u_byt b1 q2
  have b3 := u_byt b2 q3
  have b4 := u_byt b3 q4
  have b5 := u_byt b4 q5
  have b6 := (t_byt b5 q6).1
  have b7 := (t_byt b6 q7).1
  have b8 := (t_byt b7 q8).1
  have w1 := u_was hl q1
  have w2 := u_was b1 q2
  have w3 := u_was b2 q3
  have w4 := u_was b3 q4
  have w5 := u_was b4 q5
  have w6 := tx_was b5 q6
  have w7 := tx_was b6 q7
  have w8 := tx_was b7 q8
  have w9 := takeAs_was b8 q9
  have r6 := w6.2
  have r7 := w7.2
  have r8 := w8.2
  refine ⟨rfl, ⟨u_top (by decide) hl q1, u_top (by decide) b1 q2, u_top (by decide) b2 q3, u_top (by decide) b3 q4, u_top (by decide) b4 q5, by simp only; omega, by simp only; omega, by simp only; omega, w9.1, w9.2.1⟩, ?_, ?_⟩
  · unfold spanB
    simp only [List.append_assoc]
    rw [w1, w2, w3, w4, w5, w6.1, w7.1, w8.1, w9.2.2]
  · intro x hx
    exact b8 x (by rw [w9.2.2]; exact List.mem_append_right _ hx)
theorem rdN_was : ∀ (n : Nat) {l l' : List Int} {xs : List SpanD} {e : Int}, Byt l → rdN n l e = (xs, l', 0) → (0 < n → e = 0) ∧ xs.length = n ∧ (∀ s ∈ xs, Fit s) ∧ l = spsB xs ++ l'
  | 0, l, l', xs, e, _, h => by
    unfold rdN at h
    simp only [Prod.mk.injEq] at h
    obtain ⟨rfl, rfl, rfl⟩ := h
    exact ⟨fun h => absurd h (by decide), rfl, fun _ h => (by cases h), rfl⟩
  | n + 1, l, l', xs, e, hl, h => by
    unfold rdN at h
    by_cases he : e ≠ 0
    · rw [if_pos he] at h
      simp only [Prod.mk.injEq] at h
      exact absurd h.2.2 he
    · have he' : e = 0 := by simpa using he
      subst he'
      rw [if_neg (by simp)] at h
      obtain ⟨s, l1, e1, q1⟩ : ∃ s l1 e1, rdS l 0 = (s, l1, e1) := ⟨_, _, _, rfl⟩
      rw [q1] at h
      simp only at h
      obtain ⟨ys, l2, e2, q2⟩ : ∃ s z y, rdN n l1 e1 = (s, z, y) := ⟨_, _, _, rfl⟩
      rw [q2] at h
      simp only [Prod.mk.injEq] at h
      obtain ⟨rfl, rfl, rfl⟩ := h
      have hz : e1 = 0 := by
        cases n with
        | zero =>
          unfold rdN at q2
          simp only [Prod.mk.injEq] at q2
          exact q2.2.2
        | succ m =>
          by_cases h1 : e1 = 0
          · exact h1
          · unfold rdN at q2
            rw [if_pos h1] at q2
            simp only [Prod.mk.injEq] at q2
            exact q2.2.2
      subst hz
      have w := rdS_was hl q1
      have ih := rdN_was n w.2.2.2 q2
      refine ⟨fun _ => rfl, by rw [List.length_cons, ih.2.1], fun t ht => ?_, ?_⟩
      · rcases List.mem_cons.1 ht with rfl | ht
        · exact w.2.1
        · exact ih.2.2.1 t ht
      · show l = (spanB s ++ spsB ys) ++ l2
        rw [List.append_assoc, ← ih.2.2.2]
        exact w.2.2.1

/-- All of a batch that is read: numbers, how many, spans. -/
def rdB (l : List Int) : BatchD × List Int × Int :=
  let a := uStep 9007199254740991 l 0
  let b := uStep 9007199254740991 a.2.1 a.2.2
  let c := uStep 9007199254740991 b.2.1 b.2.2
  let r := rdN c.1.toNat c.2.1 c.2.2
  (⟨a.1, b.1, r.1⟩, r.2.1, r.2.2)
theorem okB_parts {b : BatchD} (h : okB b = true) : (1 ≤ b.ag ∧ b.ag ≤ 16) ∧ (1 ≤ b.sq ∧ b.sq ≤ 9007199254740991) ∧ (1 ≤ b.sp.length ∧ b.sp.length ≤ 16) ∧ (∀ s ∈ b.sp, okS s = true) ∧ (batB b).length ≤ 8192 := by
  unfold okB at h
  simp only [Bool.and_eq_true, decide_eq_true_eq, List.all_eq_true] at h
  obtain ⟨⟨⟨⟨h1, h2⟩, h3⟩, h4⟩, h5⟩ := h
  exact ⟨h1, h2, h3, h4, h5⟩
theorem rdB_back {b : BatchD} (h : okB b = true) (hw : WfB b) (r : List Int) : rdB (batB b ++ r) = (b, r, 0) := by
  obtain ⟨h1, h2, h3, h4, _⟩ := okB_parts h
  have hf : ∀ s ∈ b.sp, Fit s := fun s hs => Fit.of (h4 s hs) (hw s hs)
  obtain ⟨ag, sq, sp⟩ := b
  unfold batB rdB
  simp only [List.append_assoc] at *
  rw [u_enc ag _ (by omega) (by omega)]
  simp only
  rw [u_enc sq _ (by omega) (by omega)]
  simp only
  rw [u_enc sp.length _ (by omega) (by omega)]
  simp only
  rw [Int.toNat_natCast, rdN_back sp hf r]
/-- What Parse tells. -/
def parseB (l : List Int) : Option BatchD :=
  if (rdB l).2.2 = 0 ∧ (rdB l).2.1 = [] ∧ okB (rdB l).1 = true then some (rdB l).1 else none
theorem parse_back {b : BatchD} (h : okB b = true) (hw : WfB b) : parseB (batB b) = some b := by
  have hr := rdB_back h hw []
  rw [List.append_nil] at hr
  unfold parseB
  rw [hr, if_pos ⟨rfl, rfl, h⟩]
theorem rdB_was {l l' : List Int} {b : BatchD} (hl : Byt l) (h : rdB l = (b, l', 0)) (hn : 0 < b.sp.length) : l = batB b ++ l' ∧ (∀ s ∈ b.sp, Fit s) := by
  unfold rdB at h
  obtain ⟨a, l1, e1, q1⟩ : ∃ k z y, uStep 9007199254740991 l 0 = (k, z, y) := ⟨_, _, _, rfl⟩
  rw [q1] at h
  simp only at h
  obtain ⟨c, l2, e2, q2⟩ : ∃ k z y, uStep 9007199254740991 l1 e1 = (k, z, y) := ⟨_, _, _, rfl⟩
  rw [q2] at h
  simp only at h
  obtain ⟨d, l3, e3, q3⟩ : ∃ k z y, uStep 9007199254740991 l2 e2 = (k, z, y) := ⟨_, _, _, rfl⟩
  rw [q3] at h
  simp only at h
  obtain ⟨xs, l4, e4, q4⟩ : ∃ k z y, rdN d.toNat l3 e3 = (k, z, y) := ⟨_, _, _, rfl⟩
  rw [q4] at h
  simp only [Prod.mk.injEq] at h
  obtain ⟨rfl, rfl, rfl⟩ := h
  have b1 := u_byt hl q1
  have b2 := u_byt b1 q2
  have b3 := u_byt b2 q3
  have w := rdN_was d.toNat b3 q4
  simp only at hn
  have he3 := w.1 (by rw [← w.2.1]; exact hn)
  subst he3
  obtain rfl := u_err q3
  obtain rfl := u_err q2
  have hd : ((xs.length : Nat) : Int) = d := by rw [w.2.1]; exact Int.toNat_of_nonneg (u_top (by decide) b2 q3).1
  refine ⟨?_, w.2.2.1⟩
  unfold batB
  simp only [List.append_assoc]
  rw [hd, ← w.2.2.2, ← u_was b2 q3, ← u_was b1 q2]
  exact u_was hl q1
theorem parse_was {l : List Int} {b : BatchD} (hl : Byt l) (h : parseB l = some b) : okB b = true ∧ WfB b ∧ batB b = l := by
  unfold parseB at h
  by_cases hc : (rdB l).2.2 = 0 ∧ (rdB l).2.1 = [] ∧ okB (rdB l).1 = true
  · rw [if_pos hc, Option.some.injEq] at h
    obtain ⟨x, l', e', q⟩ : ∃ x l' e', rdB l = (x, l', e') := ⟨_, _, _, rfl⟩
    rw [q] at hc h
    simp only at hc h
    obtain ⟨rfl, rfl, ho⟩ := hc
    subst h
    have w := rdB_was hl q (okB_parts ho).2.2.1.1
    exact ⟨ho, fun s hs => (w.2 s hs).wf, by rw [w.1, List.append_nil]⟩
  · rw [if_neg hc] at h
    cases h
/-- One byte more is none. -/
theorem parse_more {b : BatchD} (h : okB b = true) (hw : WfB b) (x : Int) (r : List Int) : parseB (batB b ++ (x :: r)) = none := by
  unfold parseB
  rw [rdB_back h hw (x :: r), if_neg (fun hc => by cases hc.2.1)]
theorem parse_more' {l : List Int} {b : BatchD} (hl : Byt l) (h : parseB l = some b) (x : Int) : parseB (l ++ [x]) = none := by
  obtain ⟨ho, hw, rfl⟩ := parse_was hl h
  exact parse_more ho hw x []
/-- One byte less is none. -/
theorem parse_less {l : List Int} {b : BatchD} (hl : Byt l) (h : parseB l = some b) (k : Nat) (hk : k < l.length) : parseB (l.take k) = none := by
  cases hp : parseB (l.take k) with
  | none => rfl
  | some c =>
    obtain ⟨ho, hw, hc⟩ := parse_was (hl.take k) hp
    exfalso
    have hm : parseB (batB c ++ l.drop k) = none := by
      cases hd : l.drop k with
      | nil =>
        have := congrArg List.length hd
        rw [List.length_drop] at this
        simp at this
        omega
      | cons x r => exact parse_more ho hw x r
    rw [hc, List.take_append_drop, h] at hm
    cases hm
/-- Bytes tell batches apart. -/
theorem batB_inj {a b : BatchD} (ha : okB a = true) (hb : okB b = true) (wa : WfB a) (wb : WfB b) (h : batB a = batB b) : a = b := by
  have h1 := parse_back ha wa
  rw [h, parse_back hb wb] at h1
  exact (Option.some.inj h1).symm

end Go.Proofs.Yteifaipbckhoiab

namespace Go.Proofs.Yteifaipbckhoiab
open Go.RowKit
set_option linter.unusedVariables false

/-! The document's reader. -/
def xRdS (l : List Int) (e : Int) : SpanD × List Int × Int :=
  let a := xStep 9007199254740991 l e
  let b := xStep 9007199254740991 a.2.1 a.2.2
  let c := xStep 9007199254740991 b.2.1 b.2.2
  let d := xStep 9007199254740991 c.2.1 c.2.2
  let f := xStep 9007199254740991 d.2.1 d.2.2
  let g := xText 24 f.2.1 f.2.2
  let h := xText 24 g.2.1 g.2.2
  let k := xText 64 h.2.1 h.2.2
  let x := xTakeAs k.2.1 k.2.2
  (⟨a.1, b.1, c.1, d.1, f.1, strOfNums g.1, strOfNums h.1, strOfNums k.1, x.1⟩, x.2.1, x.2.2)
def xRdN : Nat → List Int → Int → List SpanD × List Int × Int
  | 0, l, e => ([], l, e)
  | n + 1, l, e => if e ≠ 0 then ([], l, e) else ((xRdS l e).1 :: (xRdN n (xRdS l e).2.1 (xRdS l e).2.2).1, (xRdN n (xRdS l e).2.1 (xRdS l e).2.2).2)
theorem agrT {α : Type} {a b : α × List Int × Int} (h1 : a.1 = b.1) (h2 : a.2.2 = b.2.2) (h3 : a.2.2 = 0 → b.2.1 = a.2.1) : ∃ n l' lx' e', a = (n, l', e') ∧ b = (n, lx', e') ∧ (e' = 0 → lx' = l') :=
  ⟨a.1, a.2.1, b.2.1, a.2.2, rfl, by rw [h1, h2], h3⟩
theorem uA (most : Int) (l lx : List Int) (e : Int) (h : e = 0 → lx = l) : ∃ n l' lx' e', uStep most l e = (n, l', e') ∧ xStep most lx e = (n, lx', e') ∧ (e' = 0 → lx' = l') :=
  agrT (u_agree most l lx e h).1 (u_agree most l lx e h).2.1 (u_agree most l lx e h).2.2
theorem tA (most : Int) (l lx : List Int) (e : Int) (h : e = 0 → lx = l) : ∃ n l' lx' e', bStep (textR most l) l e = (n, l', e') ∧ xText most lx e = (n, lx', e') ∧ (e' = 0 → lx' = l') :=
  agrT (text_agree most l lx e h).1 (text_agree most l lx e h).2.1 (text_agree most l lx e h).2.2
theorem asA (l lx : List Int) (e : Int) (h : e = 0 → lx = l) : ∃ n l' lx' e', takeAs l e = (n, l', e') ∧ xTakeAs lx e = (n, lx', e') ∧ (e' = 0 → lx' = l') :=
  agrT (takeAs_agree l lx e h).1 (takeAs_agree l lx e h).2.1 (takeAs_agree l lx e h).2.2
theorem rdS_agree (l lx : List Int) (e : Int) (h : e = 0 → lx = l) : ∃ s l' lx' e', rdS l e = (s, l', e') ∧ xRdS lx e = (s, lx', e') ∧ (e' = 0 → lx' = l') := by
  obtain ⟨a, l1, m1, e1, p1, q1, h1⟩ := uA 9007199254740991 l lx e h
  obtain ⟨b, l2, m2, e2, p2, q2, h2⟩ := uA 9007199254740991 l1 m1 e1 h1
  obtain ⟨c, l3, m3, e3, p3, q3, h3⟩ := uA 9007199254740991 l2 m2 e2 h2
  obtain ⟨d, l4, m4, e4, p4, q4, h4⟩ := uA 9007199254740991 l3 m3 e3 h3
  obtain ⟨f, l5, m5, e5, p5, q5, h5⟩ := uA 9007199254740991 l4 m4 e4 h4
  obtain ⟨g, l6, m6, e6, p6, q6, h6⟩ := tA 24 l5 m5 e5 h5
  obtain ⟨k, l7, m7, e7, p7, q7, h7⟩ := tA 24 l6 m6 e6 h6
  obtain ⟨n, l8, m8, e8, p8, q8, h8⟩ := tA 64 l7 m7 e7 h7
  obtain ⟨x, l9, m9, e9, p9, q9, h9⟩ := asA l8 m8 e8 h8
  refine ⟨⟨a, b, c, d, f, strOfNums g, strOfNums k, strOfNums n, x⟩, l9, m9, e9, ?_, ?_, h9⟩
  · unfold rdS
    simp only [p1, p2, p3, p4, p5, p6, p7, p8, p9]
  · unfold xRdS
    simp only [q1, q2, q3, q4, q5, q6, q7, q8, q9]
theorem rdN_agree : ∀ (n : Nat) (l lx : List Int) (e : Int), (e = 0 → lx = l) → ∃ s l' lx' e', rdN n l e = (s, l', e') ∧ xRdN n lx e = (s, lx', e') ∧ (e' = 0 → lx' = l')
  | 0, l, lx, e, h => ⟨[], l, lx, e, rfl, rfl, h⟩
  | n + 1, l, lx, e, h => by
    unfold rdN xRdN
    by_cases he : e ≠ 0
    · rw [if_pos he, if_pos he]
      exact ⟨[], l, lx, e, rfl, rfl, h⟩
    · rw [if_neg he, if_neg he]
      obtain ⟨s, l1, m1, e1, p1, q1, h1⟩ := rdS_agree l lx e h
      obtain ⟨t, l2, m2, e2, p2, q2, h2⟩ := rdN_agree n l1 m1 e1 h1
      rw [p1, q1]
      simp only
      rw [p2, q2]
      exact ⟨_, _, _, _, rfl, rfl, h2⟩
/-- What the document's Parse tells. -/
def xParse (l : List Int) : Option BatchD :=
  let a := xStep 9007199254740991 l 0
  let b := xStep 9007199254740991 a.2.1 a.2.2
  let c := xStep 9007199254740991 b.2.1 b.2.2
  let r := xRdN c.1.toNat c.2.1 c.2.2
  if 16 < c.1 then none
  else if r.2.2 = 0 ∧ r.2.1 = [] ∧ okB ⟨a.1, b.1, r.1⟩ = true ∧ batB ⟨a.1, b.1, r.1⟩ = l then some ⟨a.1, b.1, r.1⟩ else none
theorem xParse_same {l : List Int} (hl : Byt l) : xParse l = parseB l := by
  obtain ⟨a, l1, m1, e1, p1, q1, h1⟩ := uA 9007199254740991 l l 0 (fun _ => rfl)
  obtain ⟨b, l2, m2, e2, p2, q2, h2⟩ := uA 9007199254740991 l1 m1 e1 h1
  obtain ⟨c, l3, m3, e3, p3, q3, h3⟩ := uA 9007199254740991 l2 m2 e2 h2
  obtain ⟨s, l4, m4, e4, p4, q4, h4⟩ := rdN_agree c.toNat l3 m3 e3 h3
  have hr : rdB l = (⟨a, b, s⟩, l4, e4) := by
    unfold rdB
    simp only [p1, p2, p3, p4]
  have hb3 := u_byt (u_byt (u_byt hl p1) p2) p3
  unfold xParse parseB
  rw [hr]
  simp only [q1, q2, q3, q4]
  by_cases hc : 16 < c
  · rw [if_pos hc, if_neg (fun k => ?_)]
    obtain ⟨k1, k2, k3⟩ := k
    subst k1
    have w := rdN_was c.toNat hb3 p4
    have := (okB_parts k3).2.2.1.2
    simp only at this
    omega
  · rw [if_neg hc]
    by_cases hk : e4 = 0 ∧ l4 = [] ∧ okB ⟨a, b, s⟩ = true
    · obtain ⟨k1, k2, k3⟩ := hk
      subst k1
      subst k2
      have w := rdB_was hl hr (okB_parts k3).2.2.1.1
      rw [List.append_nil] at w
      rw [if_pos ⟨rfl, h4 rfl, k3, w.1.symm⟩, if_pos ⟨rfl, rfl, k3⟩]
    · rw [if_neg hk, if_neg (fun k => hk ⟨k.1, ?_, k.2.2.1⟩)]
      rw [← h4 k.1]
      exact k.2.1

/-! Spans in another order, one less. -/
theorem spsB_app (a b : List SpanD) : spsB (a ++ b) = spsB a ++ spsB b := by
  induction a with
  | nil => rfl
  | cons x t ih =>
    show spanB x ++ spsB (t ++ b) = (spanB x ++ spsB t) ++ spsB b
    rw [ih, List.append_assoc]
theorem batB_len (b : BatchD) : (batB b).length = (Num.enc b.ag).length + (Num.enc b.sq).length + (Num.enc b.sp.length).length + (spsB b.sp).length := by
  unfold batB
  simp only [List.length_append]
  omega
theorem encN {n : Nat} (h : n ≤ 16) : (Num.enc (n : Int)).length = 1 := by rw [Num.enc1 n (by omega)]; rfl
/-- A batch with other spans, no longer, is one that may be. -/
theorem okB_other {b : BatchD} (h : okB b = true) {ys : List SpanD} (h0 : 1 ≤ ys.length) (h1 : ys.length ≤ 16) (hy : ∀ s ∈ ys, okS s = true) (hz : (spsB ys).length ≤ (spsB b.sp).length) : okB ⟨b.ag, b.sq, ys⟩ = true := by
  obtain ⟨k1, k2, k3, k4, k5⟩ := okB_parts h
  rw [batB_len, encN k3.2] at k5
  unfold okB
  simp only [Bool.and_eq_true, decide_eq_true_eq, List.all_eq_true]
  refine ⟨⟨⟨⟨k1, k2⟩, h0, h1⟩, hy⟩, ?_⟩
  rw [batB_len]
  simp only
  rw [encN h1]
  omega
/-- Turned by k. -/
def turn (xs : List SpanD) (k : Nat) : List SpanD := xs.drop k ++ xs.take k
theorem okB_turn {b : BatchD} (h : okB b = true) (k : Nat) : okB ⟨b.ag, b.sq, turn b.sp k⟩ = true := by
  obtain ⟨k1, k2, k3, k4, k5⟩ := okB_parts h
  have hl : (turn b.sp k).length = b.sp.length := by unfold turn; simp; omega
  refine okB_other h (by omega) (by omega) (fun s hs => ?_) ?_
  · unfold turn at hs
    rcases List.mem_append.1 hs with hs | hs
    · exact k4 s (List.mem_of_mem_drop hs)
    · exact k4 s (List.mem_of_mem_take hs)
  · have e : spsB b.sp = spsB (b.sp.take k) ++ spsB (b.sp.drop k) := by rw [← spsB_app, List.take_append_drop]
    unfold turn
    rw [spsB_app, e, List.length_append, List.length_append]
    omega
theorem turn_at (xs : List SpanD) (k : Nat) (hk : k < xs.length) (i : Nat) (hi : i < xs.length) : (turn xs k)[i]? = xs[(i + k) % xs.length]? := by
  unfold turn
  by_cases h : i < xs.length - k
  · rw [List.getElem?_append_left (by rw [List.length_drop]; exact h), List.getElem?_drop, Nat.mod_eq_of_lt (by omega), Nat.add_comm]
  · rw [List.getElem?_append_right (by rw [List.length_drop]; omega), List.length_drop, List.getElem?_take, if_pos (by omega)]
    have e : (i + k) % xs.length = i + k - xs.length := by
      rw [Nat.mod_eq_sub_mod (by omega), Nat.mod_eq_of_lt (by omega)]
    rw [e]
    congr 1
    omega
/-- Without one. -/
theorem okB_less {b : BatchD} (h : okB b = true) (k : Nat) (hk : k < b.sp.length) : okB ⟨b.ag, b.sq, b.sp.take k ++ b.sp.drop (k + 1)⟩ = decide (1 < b.sp.length) := by
  obtain ⟨k1, k2, k3, k4, k5⟩ := okB_parts h
  have hl : (b.sp.take k ++ b.sp.drop (k + 1)).length = b.sp.length - 1 := by simp; omega
  by_cases h1 : 1 < b.sp.length
  · rw [decide_eq_true h1]
    refine okB_other h (by omega) (by omega) (fun s hs => ?_) ?_
    · rcases List.mem_append.1 hs with hs | hs
      · exact k4 s (List.mem_of_mem_take hs)
      · exact k4 s (List.mem_of_mem_drop hs)
    · have e : spsB b.sp = spsB (b.sp.take k) ++ spsB (b.sp.drop k) := by rw [← spsB_app, List.take_append_drop]
      have e2 : b.sp.drop k = b.sp[k] :: b.sp.drop (k + 1) := List.drop_eq_getElem_cons hk
      rw [spsB_app, e, e2]
      show (spsB (b.sp.take k) ++ spsB (b.sp.drop (k + 1))).length ≤ (spsB (b.sp.take k) ++ (spanB b.sp[k] ++ spsB (b.sp.drop (k + 1)))).length
      simp only [List.length_append]
      omega
  · rw [decide_eq_false h1]
    cases ho : okB ⟨b.ag, b.sq, b.sp.take k ++ b.sp.drop (k + 1)⟩ with
    | false => rfl
    | true =>
      have := (okB_parts ho).2.2.1.1
      simp only at this
      omega

/-! Others that are as long. -/
structure LikeS (a b : SpanD) : Prop where
  tr : b.tr = a.tr
  sid : b.sid = a.sid
  pa : b.pa = a.pa
  st : b.st = a.st
  ln : b.ln = a.ln
  sv : b.sv.size = a.sv.size
  op : b.op.size = a.op.size
  sb : b.sb.size = a.sb.size
  nsv : isNm a.sv = true → isNm b.sv = true
  nop : isNm a.op = true → isNm b.op = true
  oats : okAs a.ats = true → okAs b.ats = true
  lats : okAs a.ats = true → (listB b.ats).length = (listB a.ats).length
theorem LikeS.ok {a b : SpanD} (h : LikeS a b) (ho : okS a = true) : okS b = true := by
  obtain ⟨h1, h2, h3, h4, h5, h6, h7, h8, h9, h10⟩ := okS_parts ho
  unfold okS
  simp only [Bool.and_eq_true, decide_eq_true_eq]
  rw [h.tr, h.sid, h.pa, h.st, h.ln, h.sb]
  exact ⟨⟨⟨⟨⟨⟨⟨⟨⟨h1, h2⟩, h3⟩, h4⟩, h5⟩, h6⟩, h.nsv h7⟩, h.nop h8⟩, h9⟩, h.oats h10⟩
theorem txB_len (s : ByteArray) : (txB s).length = (Num.enc s.size).length + s.size := by unfold txB; rw [List.length_append, bytesOf_length]
theorem LikeS.len {a b : SpanD} (h : LikeS a b) (ho : okS a = true) : (spanB b).length = (spanB a).length := by
  have h10 := (okS_parts ho).2.2.2.2.2.2.2.2.2
  unfold spanB
  simp only [List.length_append, txB_len]
  rw [h.tr, h.sid, h.pa, h.st, h.ln, h.sv, h.op, h.sb, h.lats h10]
def LikeSs : List SpanD → List SpanD → Prop
  | [], [] => True
  | a :: s, b :: t => LikeS a b ∧ LikeSs s t
  | _, _ => False
theorem LikeSs.len : ∀ {xs ys : List SpanD}, LikeSs xs ys → ys.length = xs.length
  | [], [], _ => rfl
  | _ :: _, _ :: _, k => by rw [List.length_cons, List.length_cons, LikeSs.len k.2]
  | [], _ :: _, k => k.elim
  | _ :: _, [], k => k.elim
theorem LikeSs.snoc {a b : SpanD} (h : LikeS a b) : ∀ {xs ys : List SpanD}, LikeSs xs ys → LikeSs (xs ++ [a]) (ys ++ [b])
  | [], [], _ => ⟨h, trivial⟩
  | _ :: _, _ :: _, k => ⟨k.1, LikeSs.snoc h k.2⟩
  | [], _ :: _, k => k.elim
  | _ :: _, [], k => k.elim
theorem LikeSs.ok : ∀ {xs ys : List SpanD}, LikeSs xs ys → (∀ s ∈ xs, okS s = true) → (∀ s ∈ ys, okS s = true) ∧ (spsB ys).length = (spsB xs).length
  | [], [], _, _ => ⟨fun _ h => (by cases h), rfl⟩
  | a :: s, b :: t, k, h => by
    have ih := LikeSs.ok k.2 (fun x hx => h x (List.mem_cons_of_mem _ hx))
    have ha := h a (List.mem_cons_self ..)
    refine ⟨fun x hx => ?_, ?_⟩
    · rcases List.mem_cons.1 hx with rfl | hx
      · exact k.1.ok ha
      · exact ih.1 x hx
    · show (spanB b ++ spsB t).length = (spanB a ++ spsB s).length
      rw [List.length_append, List.length_append, k.1.len ha, ih.2]
  | [], _ :: _, k, _ => k.elim
  | _ :: _, [], k, _ => k.elim
/-- A batch whose spans are others, each as long, may be, and is as long. -/
theorem okB_like {b : BatchD} (h : okB b = true) {ys : List SpanD} (k : LikeSs b.sp ys) : okB ⟨b.ag, b.sq, ys⟩ = true ∧ (batB ⟨b.ag, b.sq, ys⟩).length = (batB b).length := by
  obtain ⟨k1, k2, k3, k4, k5⟩ := okB_parts h
  have hk := k.ok k4
  refine ⟨okB_other h (by rw [k.len]; omega) (by rw [k.len]; omega) hk.1 (by omega), ?_⟩
  rw [batB_len, batB_len]
  simp only
  rw [hk.2, k.len]
/-- Names of one letter, as often as need be. -/
theorem isNm_z : ∀ n : Fin (24 + 1), 1 ≤ n.val → isNm ⟨Array.replicate n.val 122⟩ = true := by decide +kernel
theorem isNm_y : ∀ n : Fin (24 + 1), 1 ≤ n.val → isNm ⟨Array.replicate n.val 121⟩ = true := by decide +kernel
theorem isNm_zs {s : ByteArray} (h : isNm s = true) : isNm ⟨Array.replicate s.size 122⟩ = true := isNm_z ⟨s.size, by have := (isNm_size h).2; omega⟩ (isNm_size h).1
theorem isNm_ys {s : ByteArray} (h : isNm s = true) : isNm ⟨Array.replicate s.size 121⟩ = true := isNm_y ⟨s.size, by have := (isNm_size h).2; omega⟩ (isNm_size h).1

end Go.Proofs.Yteifaipbckhoiab

namespace Go.Proofs.Yteifaipbckhoiab
open Go.RowKit
set_option linter.unusedVariables false

/-- The chapter's batch, and its bytes. -/
def chS : SpanD := ⟨3, 4, 0, 5, 6, ⟨#[97]⟩, ⟨#[98]⟩, ⟨#[]⟩, []⟩
def chB : BatchD := ⟨1, 2, [chS]⟩
def chL : List Int := [1, 2, 1, 3, 4, 0, 5, 6, 1, 97, 1, 98, 0, 0]
theorem ch_bytes : batB chB = chL := by decide +kernel
theorem ch_ok : okB chB = true := by decide +kernel
theorem ch_wf : WfB chB := by
  intro s hs a ha
  unfold chB at hs
  obtain rfl : s = chS := by simpa using hs
  unfold chS at ha
  cases ha
theorem ch_parse : parseB chL = some chB := by rw [← ch_bytes]; exact parse_back ch_ok ch_wf

/-- What may not be, one thing at a time. -/
def badBt (k : Nat) : BatchD := match k with
  | 0 => ⟨0, 2, [⟨3, 4, 0, 5, 6, ⟨#[97]⟩, ⟨#[98]⟩, ⟨#[]⟩, []⟩]⟩
  | 1 => ⟨17, 2, [⟨3, 4, 0, 5, 6, ⟨#[97]⟩, ⟨#[98]⟩, ⟨#[]⟩, []⟩]⟩
  | 2 => ⟨1, 0, [⟨3, 4, 0, 5, 6, ⟨#[97]⟩, ⟨#[98]⟩, ⟨#[]⟩, []⟩]⟩
  | 3 => ⟨1, 9007199254740992, [⟨3, 4, 0, 5, 6, ⟨#[97]⟩, ⟨#[98]⟩, ⟨#[]⟩, []⟩]⟩
  | 4 => ⟨1, 2, []⟩
  | 5 => ⟨1, 2, ⟨3, 4, 0, 5, 6, ⟨#[97]⟩, ⟨#[98]⟩, ⟨#[]⟩, []⟩ :: List.replicate 16 ⟨0, 0, 0, 0, 0, ⟨#[]⟩, ⟨#[]⟩, ⟨#[]⟩, []⟩⟩
  | 6 => ⟨1, 2, [⟨0, 4, 0, 5, 6, ⟨#[97]⟩, ⟨#[98]⟩, ⟨#[]⟩, []⟩]⟩
  | 7 => ⟨1, 2, [⟨3, 0, 0, 5, 6, ⟨#[97]⟩, ⟨#[98]⟩, ⟨#[]⟩, []⟩]⟩
  | 8 => ⟨1, 2, [⟨3, 4, -1, 5, 6, ⟨#[97]⟩, ⟨#[98]⟩, ⟨#[]⟩, []⟩]⟩
  | 9 => ⟨1, 2, [⟨3, 4, 9007199254740992, 5, 6, ⟨#[97]⟩, ⟨#[98]⟩, ⟨#[]⟩, []⟩]⟩
  | 10 => ⟨1, 2, [⟨3, 4, 0, -1, 6, ⟨#[97]⟩, ⟨#[98]⟩, ⟨#[]⟩, []⟩]⟩
  | 11 => ⟨1, 2, [⟨3, 4, 0, 5, -1, ⟨#[97]⟩, ⟨#[98]⟩, ⟨#[]⟩, []⟩]⟩
  | 12 => ⟨1, 2, [⟨3, 4, 0, 9007199254740991, 6, ⟨#[97]⟩, ⟨#[98]⟩, ⟨#[]⟩, []⟩]⟩
  | 13 => ⟨1, 2, [⟨3, 4, 0, 5, 6, ⟨#[]⟩, ⟨#[98]⟩, ⟨#[]⟩, []⟩]⟩
  | 14 => ⟨1, 2, [⟨3, 4, 0, 5, 6, ⟨#[97]⟩, ⟨#[66]⟩, ⟨#[]⟩, []⟩]⟩
  | 15 => ⟨1, 2, [⟨3, 4, 0, 5, 6, ⟨#[97]⟩, ⟨#[98]⟩, ⟨Array.replicate 65 115⟩, []⟩]⟩
  | 16 => ⟨1, 2, [⟨3, 4, 0, 5, 6, ⟨#[97]⟩, ⟨#[98]⟩, ⟨#[]⟩, [(⟨#[97]⟩, 0, 0, 0, 0, ⟨#[]⟩)]⟩]⟩
  | 17 => ⟨1, 2, [⟨9007199254740992, 4, 0, 5, 6, ⟨#[97]⟩, ⟨#[98]⟩, ⟨#[]⟩, []⟩]⟩
  | 18 => ⟨1, 2, [⟨3, 4, 0, 4611686018427387904, 4611686018427387904, ⟨#[97]⟩, ⟨#[98]⟩, ⟨#[]⟩, []⟩]⟩
  | _ => ⟨1, 2, [⟨3, 1152921504606846976, 0, 5, 6, ⟨#[97]⟩, ⟨#[98]⟩, ⟨#[]⟩, []⟩]⟩
theorem badBt_not (k : Nat) (hk : k < 20) : okB (badBt k) = false := by
  match k, hk with
  | 0, _ => decide +kernel
  | 1, _ => decide +kernel
  | 2, _ => decide +kernel
  | 3, _ => decide +kernel
  | 4, _ => decide +kernel
  | 5, _ => decide +kernel
  | 6, _ => decide +kernel
  | 7, _ => decide +kernel
  | 8, _ => decide +kernel
  | 9, _ => decide +kernel
  | 10, _ => decide +kernel
  | 11, _ => decide +kernel
  | 12, _ => decide +kernel
  | 13, _ => decide +kernel
  | 14, _ => decide +kernel
  | 15, _ => decide +kernel
  | 16, _ => decide +kernel
  | 17, _ => decide +kernel
  | 18, _ => decide +kernel
  | 19, _ => decide +kernel
  | _ + 20, h => exact absurd h (by omega)

/-! The longest span; nine of them may be, twelve not; sixteen of the chapter's. -/
def atN (k : Nat) : AttrD := (⟨#[97, 116, 116, 114, 105, 98, 117, 116, 101, 45, 110, 117, 109, 98, 101, 114, 45, (97 + k).toUInt8]⟩, 7, 0, 2, 0, ⟨Array.replicate 64 118⟩)
def fuS : SpanD := ⟨3, 4, 0, 5, 9007199254740986, ⟨Array.replicate 24 115⟩, ⟨#[98]⟩, ⟨Array.replicate 64 115⟩, (List.range 8).map atN⟩
theorem fuS_ok : okS fuS = true := by decide +kernel
theorem full9 : okB ⟨16, 9007199254740991, List.replicate 9 fuS⟩ = true := by decide +kernel
theorem full12 : okB ⟨16, 9007199254740991, List.replicate 12 fuS⟩ = false := by decide +kernel
theorem many16 : okB ⟨1, 2, List.replicate 16 chS⟩ = true := by decide +kernel

end Go.Proofs.Yteifaipbckhoiab

namespace Go.Proofs.Yteifaipbckhoiab
open Go.RowKit Go.ChangeShapes Go.WideShapes
set_option linter.unusedVariables false

/-- What came in weighs no more than there is, nor does any of its parts. -/
def Wt {H : Type} (P : Program) (t : TypeId) (d : DataW H) : Prop := ∀ n ∈ d.weights P t, n ≤ reachBytes
section
variable {H : Type} {P : Program}
theorem Wt.of {ts : List TypeId} {ds : List (DataW H)} (hs : (DataW.weightsEach P ts ds).all (· ≤ reachBytes) = true) {j : Nat} {t : TypeId} {d : DataW H} (hj : ts[j]? = some t) (hx : ds[j]? = some d) : Wt P t d :=
  fun n hn => by simpa using List.all_eq_true.1 hs n (DataW.weights_mem_each hj hx n hn)
theorem wts_mem {e : TypeId} : ∀ {l : List (DataW H)} {d : DataW H}, d ∈ l → ∀ n ∈ d.weights P e, n ∈ DataW.weightsAll P e l
  | x :: l, d, hd, n, hn => by
    rw [DataW.weightsAll]
    rcases List.mem_cons.1 hd with rfl | h
    · exact List.mem_append_left _ hn
    · exact List.mem_append_right _ (wts_mem h n hn)
theorem Wt.len {t e : TypeId} {es sp : List (DataW H)} (h : Wt P t (.slice es sp)) (hu : P.underlying t = some (.slice e)) : (es.length + sp.length) * P.bytesOf e ≤ reachBytes :=
  h _ (by simp [DataW.weights, hu])
theorem Wt.elem {t e : TypeId} {es sp : List (DataW H)} (h : Wt P t (.slice es sp)) (hu : P.underlying t = some (.slice e)) {d : DataW H} (hd : d ∈ es) : Wt P e d := fun n hn => h n (by
  have := wts_mem (P := P) hd n hn
  simp [DataW.weights, hu, this])
theorem Wt.field {t : TypeId} {fs : Array Field} {ds : List (DataW H)} (h : Wt P t (.agg ds)) (hu : P.underlying t = some (.struct fs)) {i : Nat} {f : Field} {d : DataW H} (hf : fs.toList[i]? = some f) (hd : ds[i]? = some d) : Wt P f.type d := fun n hn => h n (by
  have := DataW.weights_mem_each (P := P) (ts := fs.toList.map (·.type)) (j := i) (t := f.type) (by rw [List.getElem?_map, hf]; rfl) hd n hn
  simp only [DataW.weights, hu]
  exact this)
end

section
variable {H : Type} {enc : TypeId × Value → H} {W : World} {base : Nat} {sp : Nat → Bool} {held : Bool}
/-- A slice of elements that came in, each with what lies behind it. -/
theorem elsw_of {P : Program} {α : Type} {encA : α → List Value} {k b : Nat} {Wf : α → Prop} {t e : TypeId} (hk : ∀ x, (encA x).length = k) (ht : P.underlying t = some (.slice e)) (he : P.cellsOf e = k) (hk0 : 0 < k) (hb : P.bytesOf e = b) (hb0 : 0 < b)
    (hel : ∀ (fuel : Nat) (cs : List Value) (y : DataW H × List MemPlace), DataW.trod enc P W base sp held fuel e cs = some y → Wt P e y.1 → ∃ r : α, cs = encA r ∧ Wf r)
    {fuel : Nat} {v : Value} {x : DataW H × List MemPlace} (h : DataW.trod enc P W base sp held fuel t [v] = some x) (hw : Wt P t x.1) :
    ∃ rs : List α, El encA k W v rs ∧ (∀ r ∈ rs, Wf r) ∧ rs.length * b ≤ reachBytes := by
  rcases Deep.open_slice ht h with ⟨hc, _⟩ | ⟨a, len, cap, m, n, D, Pl, hc, _, hl, hm, hmm, rfl, hx⟩
  · simp only [List.cons.injEq, and_true] at hc
    subst hc
    exact ⟨[], Or.inl ⟨rfl, none, 0, rfl⟩, (fun r hr => by cases hr), by simp⟩
  · simp only [List.cons.injEq, and_true] at hc
    subst hc
    have hlm : len ≤ m := by rw [hmm]; split <;> omega
    have hlen := hw.len ht
    simp only [List.length_map, List.length_range] at hlen
    rw [hb] at hlen
    have hz : len * b ≤ reachBytes := Nat.le_trans (Nat.mul_le_mul_right b (by omega)) hlen
    have hz2 : len ≤ reachBytes := Nat.le_trans (Nat.le_mul_of_pos_right len hb0) hz
    rw [he] at hx
    have each : ∀ i, i < len → ∃ r : α, W.cells? base (a.add (i * k)) k = some (encA r) ∧ Wf r := fun i hi => by
      obtain ⟨cs', h1, h2⟩ := hx i (by omega)
      obtain ⟨r, rfl, hr⟩ := hel _ _ _ h2 (hw.elem ht (List.mem_map.2 ⟨i, List.mem_range.2 hi, rfl⟩))
      exact ⟨r, h1, hr⟩
    by_cases h0 : len = 0
    · subst h0
      exact ⟨[], Or.inl ⟨rfl, _, _, rfl⟩, (fun r hr => by cases hr), by simp⟩
    · have : ∃ f : Nat → α, ∀ i, i < len → W.cells? base (a.add (i * k)) k = some (encA (f i)) ∧ Wf (f i) := by
        obtain ⟨r0, _⟩ := each 0 (by omega)
        exact ⟨fun i => if hi : i < len then Classical.choose (each i hi) else r0, fun i hi => by simp only [dif_pos hi]; exact Classical.choose_spec (each i hi)⟩
      obtain ⟨f, hf⟩ := this
      obtain ⟨g, off, spot⟩ := a
      have hcell : ∀ i, i < len → ∀ j, j < k → W.cell? (((⟨g, off, spot⟩ : Addr).add (i * k)).add j) = (encA (f i))[j]? := fun i hi j hj => (World.cells?_some (hf i hi).1).2.2 j hj
      have h00 := hcell 0 (by omega) 0 hk0
      rw [List.getElem?_eq_getElem (by rw [hk]; exact hk0)] at h00
      have hspot : spot = none := by simpa [Addr.add] using World.cell?_spot h00
      subst hspot
      refine ⟨(List.range len).map f, Or.inr ⟨g, off, cap, by simp, by simpa using hl, by simp only [List.length_map, List.length_range, reachBytes] at hz2 ⊢; omega, ?_, fun j hj i u hu => ?_⟩, fun r hr => ?_, by simpa using hz⟩
      · have hlt := World.block_lt_of_cell? W _ h00
        simpa [Addr.add] using hlt
      · have hj' : j < len := by simpa using hj
        have hfe : ((List.range len).map f)[j] = f j := by simp
        rw [hfe] at hu
        have hi : i < k := by
          have := (List.getElem?_eq_some_iff.1 hu).1
          rw [hk] at this
          exact this
        have h1 := hcell j hj' i hi
        rw [Addr.add_lit, Addr.add_lit] at h1
        rw [h1]
        exact hu
      · obtain ⟨i, hi, rfl⟩ := List.mem_map.1 hr
        exact (hf i (List.mem_range.1 hi)).2
end

end Go.Proofs.Yteifaipbckhoiab

namespace Go.Proofs.Yteifaipbckhoiab
open Go.RowKit
set_option linter.unusedVariables false

/-- What a span that may be written has. -/
structure Fit4 (s : SpanD) : Prop where
  tr : 0 ≤ s.tr ∧ s.tr ≤ 9007199254740991
  sid : 0 ≤ s.sid ∧ s.sid ≤ 9007199254740991
  pa : 0 ≤ s.pa ∧ s.pa ≤ 9007199254740991
  st : 0 ≤ s.st ∧ s.st ≤ 9007199254740991
  ln : 0 ≤ s.ln ∧ s.ln ≤ 9007199254740991
  sv : s.sv.size ≤ 64
  op : s.op.size ≤ 64
  sb : s.sb.size ≤ 64
  ats : okAs s.ats = true
  wf : WfS s
theorem Fit4.of {s : SpanD} (h : Fit s) : Fit4 s := ⟨h.tr, h.sid, h.pa, h.st, h.ln, by have := h.sv; omega, by have := h.op; omega, h.sb, h.ats, h.wf⟩
/-! Reading, as the package's reader does. -/
def pdS (l : List Int) (e : Int) : SpanD × List Int × Int :=
  let a := uStep 9007199254740991 l e
  let b := uStep 9007199254740991 a.2.1 a.2.2
  let c := uStep 9007199254740991 b.2.1 b.2.2
  let d := uStep 9007199254740991 c.2.1 c.2.2
  let f := uStep 9007199254740991 d.2.1 d.2.2
  let g := bStep (textR 64 f.2.1) f.2.1 f.2.2
  let h := bStep (textR 64 g.2.1) g.2.1 g.2.2
  let k := bStep (textR 64 h.2.1) h.2.1 h.2.2
  let x := takeAs k.2.1 k.2.2
  (⟨a.1, b.1, c.1, d.1, f.1, strOfNums g.1, strOfNums h.1, strOfNums k.1, x.1⟩, x.2.1, x.2.2)
def pdN : Nat → List Int → Int → List SpanD × List Int × Int
  | 0, l, e => ([], l, e)
  | n + 1, l, e => if e ≠ 0 then ([], l, e) else ((pdS l e).1 :: (pdN n (pdS l e).2.1 (pdS l e).2.2).1, (pdN n (pdS l e).2.1 (pdS l e).2.2).2)

theorem pdS_back {s : SpanD} (h : Fit4 s) (r : List Int) : pdS (spanB s ++ r) 0 = (s, r, 0) := by
  obtain ⟨h1, h2, h3, h4, h5, h6, h7, h8, h9, h10⟩ := h
  obtain ⟨tr, sid, pa, st, ln, sv, op, sb, ats⟩ := s
  unfold spanB
  simp only [List.append_assoc] at *
  unfold pdS
  simp only
  rw [u_enc tr _ h1.1 h1.2]
  simp only
  rw [u_enc sid _ h2.1 h2.2]
  simp only
  rw [u_enc pa _ h3.1 h3.2]
  simp only
  rw [u_enc st _ h4.1 h4.2]
  simp only
  rw [u_enc ln _ h5.1 h5.2]
  simp only
  rw [tx_back 64 sv _ (by omega) (by decide)]
  simp only
  rw [tx_back 64 op _ (by omega) (by decide)]
  simp only
  rw [tx_back 64 sb _ (by omega) (by decide)]
  simp only
  rw [takeAs_back ats h9 h10 r, str_bytes, str_bytes, str_bytes]
theorem pdN_back : ∀ (xs : List SpanD), (∀ s ∈ xs, Fit4 s) → ∀ r : List Int, pdN xs.length (spsB xs ++ r) 0 = (xs, r, 0)
  | [], _, r => rfl
  | a :: t, h, r => by
    have ih := pdN_back t (fun b hb => h b (List.mem_cons_of_mem _ hb)) r
    show pdN (t.length + 1) ((spanB a ++ spsB t) ++ r) 0 = _
    rw [List.append_assoc]
    unfold pdN
    rw [if_neg (by simp), pdS_back (h a (List.mem_cons_self ..))]
    simp only
    rw [ih]

/-- What was read, was written so. -/
theorem pdS_was {l l' : List Int} {s : SpanD} {e : Int} (hl : Byt l) (h : pdS l e = (s, l', 0)) : e = 0 ∧ Fit4 s ∧ l = spanB s ++ l' ∧ Byt l' := by
  unfold pdS at h
  obtain ⟨a, l1, e1, q1⟩ : ∃ k z y, uStep 9007199254740991 l e = (k, z, y) := ⟨_, _, _, rfl⟩
  rw [q1] at h
  simp only at h
  obtain ⟨b, l2, e2, q2⟩ : ∃ k z y, uStep 9007199254740991 l1 e1 = (k, z, y) := ⟨_, _, _, rfl⟩
  rw [q2] at h
  simp only at h
  obtain ⟨c, l3, e3, q3⟩ : ∃ k z y, uStep 9007199254740991 l2 e2 = (k, z, y) := ⟨_, _, _, rfl⟩
  rw [q3] at h
  simp only at h
  obtain ⟨d, l4, e4, q4⟩ : ∃ k z y, uStep 9007199254740991 l3 e3 = (k, z, y) := ⟨_, _, _, rfl⟩
  rw [q4] at h
  simp only at h
  obtain ⟨f, l5, e5, q5⟩ : ∃ k z y, uStep 9007199254740991 l4 e4 = (k, z, y) := ⟨_, _, _, rfl⟩
  rw [q5] at h
  simp only at h
  obtain ⟨g, l6, e6, q6⟩ : ∃ k z y, bStep (textR 64 l5) l5 e5 = (k, z, y) := ⟨_, _, _, rfl⟩
  rw [q6] at h
  simp only at h
  obtain ⟨p, l7, e7, q7⟩ : ∃ k z y, bStep (textR 64 l6) l6 e6 = (k, z, y) := ⟨_, _, _, rfl⟩
  rw [q7] at h
  simp only at h
  obtain ⟨k, l8, e8, q8⟩ : ∃ k z y, bStep (textR 64 l7) l7 e7 = (k, z, y) := ⟨_, _, _, rfl⟩
  rw [q8] at h
  simp only at h
  obtain ⟨xs, l9, e9, q9⟩ : ∃ k z y, takeAs l8 e8 = (k, z, y) := ⟨_, _, _, rfl⟩
  rw [q9] at h
  simp only [Prod.mk.injEq] at h
  obtain ⟨rfl, rfl, rfl⟩ := h
  obtain rfl := takeAs_err q9
  obtain rfl := t_err q8
  obtain rfl := t_err q7
  obtain rfl := t_err q6
  obtain rfl := u_err q5
  obtain rfl := u_err q4
  obtain rfl := u_err q3
  obtain rfl := u_err q2
  obtain rfl := u_err q1
  have b1 := u_byt hl q1
  have b2 := u_byt b1 q2
  have b3 := u_byt b2 q3
  have b4 := u_byt b3 q4
  have b5 := u_byt b4 q5
  have b6 := (t_byt b5 q6).1
  have b7 := (t_byt b6 q7).1
  have b8 := (t_byt b7 q8).1
  have w1 := u_was hl q1
  have w2 := u_was b1 q2
  have w3 := u_was b2 q3
  have w4 := u_was b3 q4
  have w5 := u_was b4 q5
  have w6 := tx_was b5 q6
  have w7 := tx_was b6 q7
  have w8 := tx_was b7 q8
  have w9 := takeAs_was b8 q9
  have r6 := w6.2
  have r7 := w7.2
  have r8 := w8.2
  refine ⟨rfl, ⟨u_top (by decide) hl q1, u_top (by decide) b1 q2, u_top (by decide) b2 q3, u_top (by decide) b3 q4, u_top (by decide) b4 q5, by simp only; omega, by simp only; omega, by simp only; omega, w9.1, w9.2.1⟩, ?_, ?_⟩
  · unfold spanB
    simp only [List.append_assoc]
    rw [w1, w2, w3, w4, w5, w6.1, w7.1, w8.1, w9.2.2]
  · intro x hx
    exact b8 x (by rw [w9.2.2]; exact List.mem_append_right _ hx)
theorem pdN_was : ∀ (n : Nat) {l l' : List Int} {xs : List SpanD} {e : Int}, Byt l → pdN n l e = (xs, l', 0) → (0 < n → e = 0) ∧ xs.length = n ∧ (∀ s ∈ xs, Fit4 s) ∧ l = spsB xs ++ l'
  | 0, l, l', xs, e, _, h => by
    unfold pdN at h
    simp only [Prod.mk.injEq] at h
    obtain ⟨rfl, rfl, rfl⟩ := h
    exact ⟨fun h => absurd h (by decide), rfl, fun _ h => (by cases h), rfl⟩
  | n + 1, l, l', xs, e, hl, h => by
    unfold pdN at h
    by_cases he : e ≠ 0
    · rw [if_pos he] at h
      simp only [Prod.mk.injEq] at h
      exact absurd h.2.2 he
    · have he' : e = 0 := by simpa using he
      subst he'
      rw [if_neg (by simp)] at h
      obtain ⟨s, l1, e1, q1⟩ : ∃ s l1 e1, pdS l 0 = (s, l1, e1) := ⟨_, _, _, rfl⟩
      rw [q1] at h
      simp only at h
      obtain ⟨ys, l2, e2, q2⟩ : ∃ s z y, pdN n l1 e1 = (s, z, y) := ⟨_, _, _, rfl⟩
      rw [q2] at h
      simp only [Prod.mk.injEq] at h
      obtain ⟨rfl, rfl, rfl⟩ := h
      have hz : e1 = 0 := by
        cases n with
        | zero =>
          unfold pdN at q2
          simp only [Prod.mk.injEq] at q2
          exact q2.2.2
        | succ m =>
          by_cases h1 : e1 = 0
          · exact h1
          · unfold pdN at q2
            rw [if_pos h1] at q2
            simp only [Prod.mk.injEq] at q2
            exact q2.2.2
      subst hz
      have w := pdS_was hl q1
      have ih := pdN_was n w.2.2.2 q2
      refine ⟨fun _ => rfl, by rw [List.length_cons, ih.2.1], fun t ht => ?_, ?_⟩
      · rcases List.mem_cons.1 ht with rfl | ht
        · exact w.2.1
        · exact ih.2.2.1 t ht
      · show l = (spanB s ++ spsB ys) ++ l2
        rw [List.append_assoc, ← ih.2.2.2]
        exact w.2.2.1

/-- All of a batch that is read: numbers, how many, spans. -/
def pdB (l : List Int) : BatchD × List Int × Int :=
  let a := uStep 9007199254740991 l 0
  let b := uStep 9007199254740991 a.2.1 a.2.2
  let c := uStep 9007199254740991 b.2.1 b.2.2
  let r := pdN c.1.toNat c.2.1 c.2.2
  (⟨a.1, b.1, r.1⟩, r.2.1, r.2.2)
theorem pdB_back {b : BatchD} (h : okB b = true) (hw : WfB b) (r : List Int) : pdB (batB b ++ r) = (b, r, 0) := by
  obtain ⟨h1, h2, h3, h4, _⟩ := okB_parts h
  have hf : ∀ s ∈ b.sp, Fit4 s := fun s hs => Fit4.of (Fit.of (h4 s hs) (hw s hs))
  obtain ⟨ag, sq, sp⟩ := b
  unfold batB pdB
  simp only [List.append_assoc] at *
  rw [u_enc ag _ (by omega) (by omega)]
  simp only
  rw [u_enc sq _ (by omega) (by omega)]
  simp only
  rw [u_enc sp.length _ (by omega) (by omega)]
  simp only
  rw [Int.toNat_natCast, pdN_back sp hf r]
theorem pdB_was {l l' : List Int} {b : BatchD} (hl : Byt l) (h : pdB l = (b, l', 0)) (hn : 0 < b.sp.length) : l = batB b ++ l' ∧ (∀ s ∈ b.sp, Fit4 s) := by
  unfold pdB at h
  obtain ⟨a, l1, e1, q1⟩ : ∃ k z y, uStep 9007199254740991 l 0 = (k, z, y) := ⟨_, _, _, rfl⟩
  rw [q1] at h
  simp only at h
  obtain ⟨c, l2, e2, q2⟩ : ∃ k z y, uStep 9007199254740991 l1 e1 = (k, z, y) := ⟨_, _, _, rfl⟩
  rw [q2] at h
  simp only at h
  obtain ⟨d, l3, e3, q3⟩ : ∃ k z y, uStep 9007199254740991 l2 e2 = (k, z, y) := ⟨_, _, _, rfl⟩
  rw [q3] at h
  simp only at h
  obtain ⟨xs, l4, e4, q4⟩ : ∃ k z y, pdN d.toNat l3 e3 = (k, z, y) := ⟨_, _, _, rfl⟩
  rw [q4] at h
  simp only [Prod.mk.injEq] at h
  obtain ⟨rfl, rfl, rfl⟩ := h
  have b1 := u_byt hl q1
  have b2 := u_byt b1 q2
  have b3 := u_byt b2 q3
  have w := pdN_was d.toNat b3 q4
  simp only at hn
  have he3 := w.1 (by rw [← w.2.1]; exact hn)
  subst he3
  obtain rfl := u_err q3
  obtain rfl := u_err q2
  have hd : ((xs.length : Nat) : Int) = d := by rw [w.2.1]; exact Int.toNat_of_nonneg (u_top (by decide) b2 q3).1
  refine ⟨?_, w.2.2.1⟩
  unfold batB
  simp only [List.append_assoc]
  rw [hd, ← w.2.2.2, ← u_was b2 q3, ← u_was b1 q2]
  exact u_was hl q1
/-- What the program's Parse tells. -/
def pParse (l : List Int) : Option BatchD :=
  if 8192 < l.length then none else if (pdB l).2.2 = 0 ∧ (pdB l).2.1 = [] ∧ okB (pdB l).1 = true then some (pdB l).1 else none
theorem pParse_same {l : List Int} (hl : Byt l) : pParse l = parseB l := by
  cases hp : parseB l with
  | some b =>
    obtain ⟨ho, hw, rfl⟩ := parse_was hl hp
    have hr := pdB_back ho hw []
    rw [List.append_nil] at hr
    unfold pParse
    rw [if_neg (by have := (okB_parts ho).2.2.2.2; omega), hr, if_pos ⟨rfl, rfl, ho⟩]
  | none =>
    unfold pParse
    by_cases h8 : 8192 < l.length
    · rw [if_pos h8]
    rw [if_neg h8]
    by_cases hc : (pdB l).2.2 = 0 ∧ (pdB l).2.1 = [] ∧ okB (pdB l).1 = true
    · exfalso
      obtain ⟨x, l', e', q⟩ : ∃ x l' e', pdB l = (x, l', e') := ⟨_, _, _, rfl⟩
      rw [q] at hc
      simp only at hc
      obtain ⟨rfl, rfl, ho⟩ := hc
      have w := pdB_was hl q (okB_parts ho).2.2.1.1
      have h1 := parse_back ho (fun s hs => (w.2 s hs).wf)
      rw [List.append_nil] at w
      rw [← w.1, hp] at h1
      cases h1
    · rw [if_neg hc]

end Go.Proofs.Yteifaipbckhoiab
