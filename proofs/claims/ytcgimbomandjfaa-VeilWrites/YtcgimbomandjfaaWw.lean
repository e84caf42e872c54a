/- What VeilWrites and VeilBack have at hand: bytes of labels, readers of both sides. -/
import Derived.Test.YtcgimbomandjfaaTx
import Derived.Test.YtcgimbomandjfaaDe
namespace Go.Proofs.Ytcgimbomandjfaa
open Go.RowKit
set_option linter.unusedVariables false

/-- Bytes and an error. -/
def BEnd (w : World) (l : List Int) (er : Int) (e : Ending) (w' : World) : Prop :=
  ∃ a n cap, e = .returned (.tuple #[.slice a n cap, .int .i64 er]) ∧ l.length = n ∧ Ow w.heap.size w' (.slice a n cap) l ∧ Below w.heap.size w w'

/-- The bytes of a label; none, if it may not be. -/
def lbytes (x p : Int) : List Int := if okL x then Num.enc x ++ Num.enc p else []
def lerr (x : Int) : Int := if okL x then 0 else 9

theorem bytes_any (x p : Int) (w : World) (hp : 0 ≤ p ∧ p ≤ 4294967295) : Calls Try.prog 18 #[.agg #[.int .i64 x, .int .u32 p]] w fun e w' => BEnd w (lbytes x p) (lerr x) e w' := by
  unfold lbytes lerr
  cases ho : okL x
  · refine (bytes_bad x p w ho).mono ?_
    rintro e w' ⟨rfl, hk⟩
    exact ⟨none, 0, 0, rfl, rfl, ⟨Byt.nil, Nat.zero_le _, World.ownsRow_nil w' _ 5 1⟩, hk⟩
  · refine (bytes_ok x p w ho hp).mono ?_
    rintro e w' ⟨a, cap, rfl, h, hk⟩
    exact ⟨a, _, cap, rfl, rfl, h, hk⟩
theorem rbytes_any (x p : Int) (w : World) (hp : 0 ≤ p ∧ p ≤ 4294967295) : Calls Try.prog 19 #[.agg #[.int .i64 x, .int .u32 p]] w fun e w' => BEnd w (lbytes x p) (lerr x) e w' := by
  unfold lbytes lerr
  cases ho : okL x
  · refine (rbytes_bad x p w ho).mono ?_
    rintro e w' ⟨rfl, hk⟩
    exact ⟨none, 0, 0, rfl, rfl, ⟨Byt.nil, Nat.zero_le _, World.ownsRow_nil w' _ 5 1⟩, hk⟩
  · refine (rbytes_ok x p w ho hp).mono ?_
    rintro e w' ⟨a, cap, rfl, h, hk⟩
    exact ⟨a, _, cap, rfl, rfl, h, hk⟩

/-- The text of a label; none, if it may not be. -/
def ltext (x p : Int) : ByteArray := if okL x then textOf x.toNat p.toNat else ⟨#[]⟩
theorem text_any (x p : Int) (w : World) (hp : 0 ≤ p ∧ p ≤ 4294967295) : Calls Try.prog 30 #[.agg #[.int .i64 x, .int .u32 p]] w fun e w' => VEnd w (.string (ltext x p)) e w' := by
  unfold ltext
  cases ho : okL x
  · exact text_bad x p w ho
  · have hx := okL_true ho
    obtain ⟨X, rfl⟩ := Int.eq_ofNat_of_zero_le hx.1
    obtain ⟨P, rfl⟩ := Int.eq_ofNat_of_zero_le hp.1
    exact text_ok X P w (by omega) (by omega)
theorem rtext_any (x p : Int) (w : World) (hp : 0 ≤ p ∧ p ≤ 4294967295) : Calls Try.prog 31 #[.agg #[.int .i64 x, .int .u32 p]] w fun e w' => VEnd w (.string (ltext x p)) e w' := by
  unfold ltext
  cases ho : okL x
  · exact rtext_bad x p w ho
  · have hx := okL_true ho
    obtain ⟨X, rfl⟩ := Int.eq_ofNat_of_zero_le hx.1
    obtain ⟨P, rfl⟩ := Int.eq_ofNat_of_zero_le hp.1
    exact rtext_ok X P w (by omega) (by omega)

/-- Both readers' steps tell the same. -/
theorem ux (most : Int) (l : List Int) : ∃ n1 l1 e1 n2 l2 e2 m1 m2, uStep most l 0 = (n1, l1, e1) ∧ uStep most l1 e1 = (n2, l2, e2) ∧ xStep most l 0 = (n1, m1, e1) ∧ xStep most m1 e1 = (n2, m2, e2) ∧ (e2 = 0 → m2 = l2) := by
  obtain ⟨n, er, k, hn⟩ : ∃ n er k, Num.num most l = (n, er, k) := ⟨_, _, _, rfl⟩
  by_cases he : er = 0
  · subst he
    obtain ⟨n2, er2, k2, hn2⟩ : ∃ n' er' k', Num.num most (l.drop k) = (n', er', k') := ⟨_, _, _, rfl⟩
    have u1 : uStep most l 0 = (n, l.drop k, 0) := by unfold uStep; rw [if_neg (by simp), hn, if_neg (by simp)]
    have x1 : xStep most l 0 = (n, l.drop k, 0) := xStep_ok hn
    by_cases he2 : er2 = 0
    · subst he2
      exact ⟨_, _, _, n2, (l.drop k).drop k2, 0, _, _, u1, by unfold uStep; rw [if_neg (by simp), hn2, if_neg (by simp)], x1, xStep_ok hn2, fun _ => rfl⟩
    · exact ⟨_, _, _, 0, [], er2, _, _, u1, by unfold uStep; rw [if_neg (by simp), hn2, if_pos he2], x1, xStep_bad hn2 he2, fun h => absurd h he2⟩
  · have u1 : uStep most l 0 = (0, [], er) := by unfold uStep; rw [if_neg (by simp), hn, if_pos he]
    have x1 : xStep most l 0 = (0, l, er) := xStep_bad hn he
    exact ⟨_, _, _, 0, [], er, _, _, u1, by unfold uStep; rw [if_pos he], x1, xStep_err he, fun h => absurd h he⟩

theorem ux_bd {most : Int} {l l1 l2 : List Int} {n1 e1 n2 e2 : Int} (hm : 0 ≤ most) (hl : Byt l) (h1 : uStep most l 0 = (n1, l1, e1)) (h2 : uStep most l1 e1 = (n2, l2, e2)) : 0 ≤ n2 ∧ n2 ≤ most ∧ 0 ≤ n1 := by
  have hb1 := uStep_bd most l 0 hm hl
  have hl1 : Byt l1 := by
    unfold uStep at h1
    split at h1
    · injection h1 with _ h; injection h with h _; rw [← h]; exact hl
    · split at h1
      · injection h1 with _ h; injection h with h _; rw [← h]; exact Byt.nil
      · injection h1 with _ h; injection h with h _; rw [← h]; exact hl.drop _
  have hb2 := uStep_bd most l1 e1 hm hl1
  rw [h1] at hb1
  rw [h2] at hb2
  exact ⟨hb2.1, hb2.2, hb1.1⟩

/-- How many bytes are left, by what is told of them. -/
def leftOf (l : List Int) (e : Int) : Int := if e = 0 then (l.length : Int) else 0
theorem Left_any {RB : Nat} {w : World} {rb : Nat} {l : List Int} {e0 : Int} (h : Rd RB w rb l e0) : Calls Try.prog 28 #[.pointer (some ⟨rb, 0, none⟩)] w fun e w' => VEnd w (.int .i64 (leftOf l e0)) e w' := by
  unfold leftOf
  by_cases he : e0 = 0
  · subst he
    rw [if_pos rfl]
    refine (Left_ok h).mono ?_
    rintro e w' ⟨rfl, rfl⟩
    exact VEnd.mk (Below.refl _ _)
  · rw [if_neg he]
    refine (Left_bad h he).mono ?_
    rintro e w' ⟨rfl, rfl⟩
    exact VEnd.mk (Below.refl _ _)
theorem LeftX_any {XB : Nat} {w : World} {xb : Nat} {l : List Int} {e0 : Int} (h : Rx XB w xb l e0) : Calls Try.prog 29 #[.pointer (some ⟨xb, 0, none⟩)] w fun e w' => VEnd w (.int .i64 (leftOf l e0)) e w' := by
  unfold leftOf
  by_cases he : e0 = 0
  · subst he
    rw [if_pos rfl]
    refine (LeftX_ok h _ rfl).mono ?_
    rintro e w' ⟨rfl, rfl⟩
    exact VEnd.mk (Below.refl _ _)
  · rw [if_neg he]
    refine (LeftX_bad h he).mono ?_
    rintro e w' ⟨rfl, rfl⟩
    exact VEnd.mk (Below.refl _ _)
theorem Err_v {RB : Nat} {w : World} {rb : Nat} {l : List Int} {e0 : Int} (h : Rd RB w rb l e0) : Calls Try.prog 27 #[.pointer (some ⟨rb, 0, none⟩)] w fun e w' => VEnd w (.int .i64 e0) e w' := by
  refine (Err_any h).mono ?_
  rintro e w' ⟨rfl, rfl⟩
  exact VEnd.mk (Below.refl _ _)
theorem eq_v {A B : Nat → Prop} {w : World} {va vb : Value} {l : List Int} (ha : Bs A w va l) (hb : Bs B w vb l) : Calls Try.prog 26 #[va, vb] w fun e w' => VEnd w (.bool true) e w' := by
  refine (eq_same ha hb).mono ?_
  rintro e w' ⟨rfl, m, rfl⟩
  exact VEnd.mk (below_drewN (Below.refl _ _) m)
/-- What is left is the same of both readers, as they tell it. -/
theorem left_same (n1 n2 e2 : Int) (l2 m2 : List Int) (h : e2 = 0 → m2 = l2) : leftOf m2 (tkLab n1 n2 l2 e2).2.2.2 = leftOf (tkLab n1 n2 l2 e2).2.2.1 (tkLab n1 n2 l2 e2).2.2.2 := by
  by_cases he : e2 = 0
  · have e1 : tkLab n1 n2 l2 e2 = if 7 < n1 ∨ 4294967295 < n2 then (0, 0, [], 4) else (n1, n2, l2, 0) := by unfold tkLab; rw [if_neg (by simpa using he)]
    rw [e1]
    by_cases hb : 7 < n1 ∨ 4294967295 < n2
    · rw [if_pos hb]
      rfl
    · rw [if_neg hb, h he]
  · have e1 : tkLab n1 n2 l2 e2 = (0, 0, l2, e2) := by unfold tkLab; rw [if_pos he]
    rw [e1]
    unfold leftOf
    simp only
    rw [if_neg he, if_neg he]

end Go.Proofs.Ytcgimbomandjfaa
