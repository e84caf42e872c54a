/- The document: its reader. -/
import Derived.Test.YteifaipbckhoiabNx
namespace Go.Proofs.Yteifaipbckhoiab
open Go.RowKit
set_option linter.unusedVariables false

section
variable {XB : Nat}

theorem Rx.drewN {w : World} {xb : Nat} {l : List Int} {e : Int} (h : Rx XB w xb l e) (n : Nat) : Rx XB (w.drewN n) xb l e := by
  obtain ⟨h0, ⟨v, h2, h3⟩, h4, h5, h6⟩ := h
  exact ⟨h0, ⟨v, h2, h3.keep ((Kp.refl (fun _ => False) w).drewN n) (fun _ _ _ h => h)⟩, h4, h5, h6⟩

/-- What the document's reader tells when a number up to 'most' is asked of it. -/
def xStep (most : Int) (l : List Int) (e : Int) : Int × List Int × Int :=
  if e ≠ 0 then (0, l, e) else if (Num.num most l).2.1 ≠ 0 then (0, l, (Num.num most l).2.1) else ((Num.num most l).1, l.drop (Num.num most l).2.2, 0)

def XEnd (XB : Nat) (w : World) (xb : Nat) (r : Int × List Int × Int) (e : Ending) (w' : World) : Prop :=
  e = .returned (.int .i64 r.1) ∧ Rx XB w' xb r.2.1 r.2.2 ∧ Kp (fun b => b = xb) w w'

theorem told_rng (x : Int) (h0 : 0 ≤ x) (h1 : x ≤ 255) : (Num.told x = 1 ∧ 0 ≤ x ∧ x < 128) ∨ (Num.told x = 2 ∧ 128 ≤ x ∧ x < 192) ∨ (Num.told x = 3 ∧ 192 ≤ x ∧ x < 224) ∨ (Num.told x = 4 ∧ 224 ≤ x ∧ x < 240) ∨ (Num.told x = 5 ∧ 240 ≤ x ∧ x < 248)
    ∨ (Num.told x = 6 ∧ 248 ≤ x ∧ x < 252) ∨ (Num.told x = 7 ∧ 252 ≤ x ∧ x < 254) ∨ (Num.told x = 8 ∧ 254 ≤ x ∧ x < 255) ∨ (Num.told x = 9 ∧ 255 ≤ x ∧ x < 256) := by
  unfold Num.told
  repeat' split
  all_goals omega

theorem xStep_err {most e : Int} {l : List Int} (he : e ≠ 0) : xStep most l e = (0, l, e) := by unfold xStep; rw [if_pos he]
theorem xStep_bad {most er : Int} {l : List Int} {n : Int} {k : Nat} (hn : Num.num most l = (n, er, k)) (he : er ≠ 0) : xStep most l 0 = (0, l, er) := by
  unfold xStep; rw [if_neg (by omega), hn, if_pos he]
theorem xStep_ok {most : Int} {l : List Int} {n : Int} {k : Nat} (hn : Num.num most l = (n, 0, k)) : xStep most l 0 = (n, l.drop k, 0) := by
  unfold xStep; rw [if_neg (by omega), hn, if_neg (by simp)]

end

section
variable {XB : Nat}

/-- What taking n bytes off tells of the document's reader: the bytes, what it has, its error. -/
def xRaw (n : Int) (l : List Int) (e : Int) : List Int × List Int × Int :=
  if e ≠ 0 then ([], l, e) else if n < 0 then ([], l, 2) else if (l.length : Int) < n then ([], l, 3) else (l.take n.toNat, l.drop n.toNat, 0)

/-- What taking a text off tells of it. -/
def xText (most : Int) (l : List Int) (e : Int) : List Int × List Int × Int :=
  if (xStep 9007199254740991 l e).2.2 ≠ 0 then ([], (xStep 9007199254740991 l e).2.1, (xStep 9007199254740991 l e).2.2)
  else if most < (xStep 9007199254740991 l e).1 then ([], (xStep 9007199254740991 l e).2.1, 5)
  else xRaw (xStep 9007199254740991 l e).1 (xStep 9007199254740991 l e).2.1 0

def XTake (XB : Nat) (w : World) (xb : Nat) (r : List Int × List Int × Int) (e : Ending) (w' : World) : Prop :=
  ∃ a cap, e = .returned (.slice a r.1.length cap) ∧ Bs (fun b => w.heap.size ≤ b) w' (.slice a r.1.length cap) r.1 ∧ Rx XB w' xb r.2.1 r.2.2 ∧ Kp (fun b => b = xb) w w'

theorem XTake.none {w w' : World} {xb : Nat} {l : List Int} {e : Int} (h : Rx XB w' xb l e) (k : Kp (fun b => b = xb) w w') : XTake XB w xb ([], l, e) (.returned (.slice none 0 0)) w' :=
  ⟨_, 0, rfl, Bs.ofNil _ _, h, k⟩

def XSome (w : World) (xb b off cap n k : Nat) (l : List Int) (e : Ending) (w' : World) : Prop :=
  ∃ a c w1 a', e = .returned (.slice a n c) ∧ w' = w1.setCell ⟨xb, 0, none⟩ (.slice a' (k - n) (cap - n)) ∧
      (n < k → a' = some ⟨b, off + n, none⟩) ∧ (a' = some ⟨b, off, none⟩ ∨ a' = some ⟨b, off + n, none⟩) ∧
      Bs (fun b => w.heap.size ≤ b) w1 (.slice a n c) l ∧ Below w.heap.size w w1

def XText (XB : Nat) (w : World) (xb : Nat) (r : List Int × List Int × Int) (e : Ending) (w' : World) : Prop :=
  e = .returned (.string (strOfNums r.1)) ∧ Rx XB w' xb r.2.1 r.2.2 ∧ Kp (fun b => b = xb) w w'

theorem u_agree (most : Int) (l lx : List Int) (e : Int) (h : e = 0 → lx = l) : (uStep most l e).1 = (xStep most lx e).1 ∧ (uStep most l e).2.2 = (xStep most lx e).2.2 ∧ ((uStep most l e).2.2 = 0 → (xStep most lx e).2.1 = (uStep most l e).2.1) := by
  unfold uStep xStep
  by_cases he : e ≠ 0
  · rw [if_pos he, if_pos he]; exact ⟨rfl, rfl, fun h => absurd h he⟩
  · have he' : e = 0 := by simpa using he
    rw [if_neg he, if_neg he, h he']
    by_cases h2 : (Num.num most l).2.1 ≠ 0
    · rw [if_pos h2, if_pos h2]; exact ⟨rfl, rfl, fun h => absurd h h2⟩
    · rw [if_neg h2, if_neg h2]; exact ⟨rfl, rfl, fun _ => rfl⟩

theorem raw_agree (n : Int) (l lx : List Int) (e : Int) (h : e = 0 → lx = l) : (bStep (rawR n l) l e).1 = (xRaw n lx e).1 ∧ (bStep (rawR n l) l e).2.2 = (xRaw n lx e).2.2 ∧ ((bStep (rawR n l) l e).2.2 = 0 → (xRaw n lx e).2.1 = (bStep (rawR n l) l e).2.1) := by
  unfold bStep xRaw rawR
  by_cases he : e ≠ 0
  · rw [if_pos he, if_pos he]; exact ⟨rfl, rfl, fun h => absurd h he⟩
  · have he' : e = 0 := by simpa using he
    rw [if_neg he, if_neg he, h he']
    by_cases h2 : n < 0
    · rw [if_pos h2, if_pos h2]; simp
    · rw [if_neg h2, if_neg h2]
      by_cases h3 : (l.length : Int) < n
      · rw [if_pos h3, if_pos h3]; simp
      · rw [if_neg h3, if_neg h3]; simp

theorem text_agree (most : Int) (l lx : List Int) (e : Int) (h : e = 0 → lx = l) : (bStep (textR most l) l e).1 = (xText most lx e).1 ∧ (bStep (textR most l) l e).2.2 = (xText most lx e).2.2 ∧ ((bStep (textR most l) l e).2.2 = 0 → (xText most lx e).2.1 = (bStep (textR most l) l e).2.1) := by
  by_cases he : e ≠ 0
  · unfold bStep xText
    rw [xStep_err he, if_pos he, if_pos he]; exact ⟨rfl, rfl, fun h => absurd h he⟩
  · have he' : e = 0 := by simpa using he
    subst he'
    rw [h rfl]
    obtain ⟨n, er, k, hn⟩ : ∃ n er k, Num.num 9007199254740991 l = (n, er, k) := ⟨_, _, _, rfl⟩
    unfold xText textR
    rw [hn]
    by_cases h2 : er ≠ 0
    · rw [xStep_bad hn h2, if_pos h2, if_pos h2]
      unfold bStep
      rw [if_neg he, if_pos h2]
      exact ⟨rfl, rfl, fun h => absurd h h2⟩
    · have h2' : er = 0 := by simpa using h2
      subst h2'
      rw [xStep_ok hn, if_neg h2, if_neg h2]
      by_cases h3 : most < n
      · rw [if_pos h3, if_pos h3]; unfold bStep; simp
      · rw [if_neg h3, if_neg h3]
        have q := raw_agree n (l.drop k) (l.drop k) 0 (fun _ => rfl)
        have e1 : bStep (rawR n (l.drop k)) l 0 = bStep (rawR n (l.drop k)) (l.drop k) 0 := by unfold bStep; rw [if_neg he, if_neg he]
        rw [e1]
        exact q
end

end Go.Proofs.Yteifaipbckhoiab
