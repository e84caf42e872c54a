/- The reader's number, of whatever bytes are left. -/
import Derived.Test.YtcgimbomandjfabNr
namespace Go.Proofs.Ytcgimbomandjfab
open Go.RowKit
variable {RB : Nat}

theorem Kp.drewN {S : Nat → Prop} {a w : World} (h : Kp S a w) (n : Nat) : Kp S a (w.drewN n) := ⟨h.os, h.tape, h.output, h.size, h.block⟩

theorem Rd.drewN {w : World} {rb : Nat} {l : List Int} {e : Int} (h : Rd RB w rb l e) (n : Nat) : Rd RB (w.drewN n) rb l e := by
  obtain ⟨h0, h1, ⟨v, h2, h3⟩, h4, h5, h6⟩ := h
  exact ⟨h0, h1, ⟨v, h2, h3.keep ((Kp.refl (fun _ => False) w).drewN n) (fun _ _ _ h => h)⟩, h4, h5, h6⟩

/-- A reader behind a store of what is left. -/
theorem Rd.put {w : World} {rb : Nat} {l l' : List Int} {e : Int} (h : Rd RB w rb l e) {v' : Value} (hv : Bs (fun b => RB ≤ b ∧ b < rb) w v' l') : Rd RB (w.setCell ⟨rb, 1, none⟩ v') rb l' e := by
  obtain ⟨h0, h1, ⟨v, h2, h3⟩, h4, h5, h6⟩ := h
  refine ⟨by simpa using h0, ?_, ⟨v', ?_, hv.keep (S := fun b => b = rb) ((Kp.refl (fun b => b = rb) w).setCell ⟨rb, 1, none⟩ v' (fun _ => rfl)) (fun b _ h h' => by have h2 : b = rb := h'; omega)⟩, ?_, by simpa using h5, by simpa using h6⟩
  · simp [go_sem, h1]
  · simp [go_sem, h2]
  · simp [go_sem, h4]

/-- What is left of a row behind its first k bytes. -/
theorem Bs.rest {A : Nat → Prop} {w : World} {b off cap k : Nat} {l : List Int} (hl : Byt l) (hb : l.length ≤ 140737488355328) (hc : l.length ≤ cap) (hA : A b) (hlt : b < w.heap.size) (hcell : ∀ i, i < l.length → w.cell? ⟨b, off + i, none⟩ = some (.int .u8 (l.getD i 0)))
    {a : Option Addr} (hk : k ≤ l.length) (ha : k < l.length → a = some ⟨b, off + k, none⟩) (ha' : a = some ⟨b, off, none⟩ ∨ a = some ⟨b, off + k, none⟩) : Bs A w (.slice a (l.length - k) (cap - k)) (l.drop k) := by
  refine ⟨hl.drop k, by simp; omega, Or.inr ?_⟩
  by_cases h : k < l.length
  · refine ⟨b, off + k, cap - k, by rw [ha h, List.length_drop], by rw [List.length_drop]; omega, hA, hlt, fun i hi => ?_⟩
    rw [List.length_drop] at hi
    have := hcell (k + i) (by omega)
    rw [Nat.add_assoc, this]
    simp
  · have hn : ∀ i, ¬ i < (l.drop k).length := fun i hi => by rw [List.length_drop] at hi; omega
    rcases ha' with ha' | ha'
    · exact ⟨b, off, cap - k, by rw [ha', List.length_drop], by rw [List.length_drop]; omega, hA, hlt, fun i hi => absurd hi (hn i)⟩
    · exact ⟨b, off + k, cap - k, by rw [ha', List.length_drop], by rw [List.length_drop]; omega, hA, hlt, fun i hi => absurd hi (hn i)⟩

/-- How 'number' ends. -/
def NumEnd (RB : Nat) (w : World) (rb : Nat) (l : List Int) (most : Int) (e : Ending) (w' : World) : Prop :=
  e = .returned (.tuple #[.int .i64 (Num.num most l).1, .int .i64 (Num.num most l).2.1]) ∧ Rd RB w' rb (l.drop (Num.num most l).2.2) 0 ∧ Kp (fun b => b = rb) w w'

set_option maxHeartbeats 400000 in
theorem number_none {w : World} {rb : Nat} {a : Option Addr} {cap : Nat} (most : Int) (hc1 : w.cell? ⟨rb, 1, none⟩ = some (.slice a 0 cap)) :
    Calls Try.prog 26 #[.pointer (some ⟨rb, 0, none⟩), .int .i64 most] w fun e w' => e = .returned (.tuple #[.int .i64 0, .int .i64 3]) ∧ w' = w := by
  go_enter Try.func26, Try.ntmps26
  go_wp2
  go_ret2
  exact ⟨rfl, rfl⟩

set_option maxHeartbeats 400000 in
theorem number_nine {w : World} {rb b off cap n : Nat} (most x : Int) (hc1 : w.cell? ⟨rb, 1, none⟩ = some (.slice (some ⟨b, off, none⟩) n cap)) (hn : 0 < n)
    (hcx : w.cell? ⟨b, off, none⟩ = some (.int .u8 x)) (hx0 : 0 ≤ x) (hx1 : x ≤ 255) (hk : Num.told x = 9) :
    Calls Try.prog 26 #[.pointer (some ⟨rb, 0, none⟩), .int .i64 most] w fun e w' => e = .returned (.tuple #[.int .i64 0, .int .i64 4]) ∧ w' = w := by
  have hz : ((n : Int) == 0) = false := by rw [beq_eq_false_iff_ne]; omega
  have hpos : (0 : Int) < (n : Int) := by omega
  have HK : Hid (Num.told x = 9) := hk
  clear hk
  go_enter Try.func26, Try.ntmps26
  go_wp2_with (go_at_call 31; refine (told_is _ 9 _ hx0 hx1 HK.out).mono ?_; rintro e w' ⟨rfl, rfl⟩)
  go_ret2
  exact ⟨rfl, rfl⟩

set_option maxHeartbeats 400000 in
theorem number_short {w : World} {rb b off cap n k : Nat} (most x : Int) (hc1 : w.cell? ⟨rb, 1, none⟩ = some (.slice (some ⟨b, off, none⟩) n cap)) (hn : 0 < n)
    (hcx : w.cell? ⟨b, off, none⟩ = some (.int .u8 x)) (hx0 : 0 ≤ x) (hx1 : x ≤ 255) (hk : Num.told x = k) (h8 : k ≤ 8) (hs : n < k) :
    Calls Try.prog 26 #[.pointer (some ⟨rb, 0, none⟩), .int .i64 most] w fun e w' => e = .returned (.tuple #[.int .i64 0, .int .i64 3]) ∧ w' = w := by
  have hz : ((n : Int) == 0) = false := by rw [beq_eq_false_iff_ne]; omega
  have hpos : (0 : Int) < (n : Int) := by omega
  have h8' : (k : Int) ≤ 8 := by omega
  have hs' : (n : Int) < (k : Int) := by omega
  have HK : Hid (Num.told x = k) := hk
  clear hk
  go_enter Try.func26, Try.ntmps26
  go_wp2_with (go_at_call 31; refine (told_is _ k _ hx0 hx1 HK.out).mono ?_; rintro e w' ⟨rfl, rfl⟩)
  go_ret2
  exact ⟨rfl, rfl⟩

theorem number_any {w : World} {rb : Nat} {l : List Int} (h : Rd RB w rb l 0) (most : Int) :
    Calls Try.prog 26 #[.pointer (some ⟨rb, 0, none⟩), .int .i64 most] w fun e w' => NumEnd RB w rb l most e w' := by
  obtain ⟨v, hv1, hbs⟩ := h.left
  have hbs' := hbs
  obtain ⟨h1, h2, h3⟩ := hbs
  by_cases h0 : l.length = 0
  · obtain ⟨a, cap, rfl⟩ := hbs'.len
    rw [h0] at hv1
    refine (number_none most hv1).mono ?_
    rintro e w' ⟨rfl, rfl⟩
    have hn : Num.num most l = (0, 3, 0) := by unfold Num.num; rw [if_pos h0]
    refine ⟨by rw [hn], by rw [hn]; exact h, Kp.refl _ _⟩
  · rcases h3 with ⟨_, hnil⟩ | ⟨b, off, cap, rfl, hc, hA, hlt, hcell⟩
    · rw [hnil] at h0; exact absurd rfl h0
    · have hx := h1.get 0
      have hcx := hcell 0 (by omega)
      rw [Nat.add_zero] at hcx
      have htb := Num.told_bd (l.getD 0 0)
      by_cases h9 : Num.told (l.getD 0 0) = 9
      · refine (number_nine most _ hv1 (by omega) hcx hx.1 hx.2 h9).mono ?_
        rintro e w' ⟨rfl, rfl⟩
        have hn : Num.num most l = (0, 4, 0) := by unfold Num.num; rw [if_neg h0, if_pos h9]
        exact ⟨by rw [hn], by rw [hn]; exact h, Kp.refl _ _⟩
      · by_cases hs : l.length < Num.told (l.getD 0 0)
        · refine (number_short most _ hv1 (by omega) hcx hx.1 hx.2 rfl (by omega) hs).mono ?_
          rintro e w' ⟨rfl, rfl⟩
          have hn : Num.num most l = (0, 3, 0) := by unfold Num.num; rw [if_neg h0, if_neg h9, if_pos hs]
          exact ⟨by rw [hn], by rw [hn]; exact h, Kp.refl _ _⟩
        · have key : ∀ k, Num.told (l.getD 0 0) = k → ∀ e w', NumPost w rb b off cap l k most e w' → NumEnd RB w rb l most e w' := by
            intro k hk e w' hp
            obtain ⟨nq, hp⟩ := hp
            have hnum : Num.num most l = if Num.sz (Num.V l k (k - 1)) ≠ k ∨ most < Num.V l k (k - 1) then (0, 4, 0) else (Num.V l k (k - 1), 0, k) := by
              unfold Num.num; rw [if_neg h0, if_neg h9, if_neg hs, hk]
            rcases hp with ⟨hbad, rfl, rfl⟩ | ⟨⟨g1, g2⟩, rfl, a, ha, ha', rfl⟩
            · rw [if_pos hbad] at hnum
              exact ⟨by rw [hnum], by rw [hnum]; exact h.drewN nq, (Kp.refl _ _).drewN nq⟩
            · rw [if_neg (by rintro (q | q); exact q g1; omega)] at hnum
              refine ⟨by rw [hnum], ?_, ((Kp.refl (fun b => b = rb) w).drewN nq).setCell _ _ (fun _ => rfl)⟩
              rw [hnum]
              have hr : Bs (fun b => RB ≤ b ∧ b < rb) (w.drewN nq) (.slice a (l.length - k) (cap - k)) (l.drop k) := Bs.rest (A := fun b => RB ≤ b ∧ b < rb) (w := w.drewN nq) (b := b) (off := off) (k := k) h1 h2 hc hA hlt hcell (by omega) ha ha'
              exact (h.drewN nq).put hr
          have hk : Num.told (l.getD 0 0) = 1 ∨ Num.told (l.getD 0 0) = 2 ∨ Num.told (l.getD 0 0) = 3 ∨ Num.told (l.getD 0 0) = 4 ∨ Num.told (l.getD 0 0) = 5 ∨ Num.told (l.getD 0 0) = 6 ∨ Num.told (l.getD 0 0) = 7 ∨ Num.told (l.getD 0 0) = 8 := by omega
          rcases hk with hk | hk | hk | hk | hk | hk | hk | hk
          · exact (number1 most hc hv1 h.free1 h1 h2 hcell hk (by omega)).mono (key 1 hk)
          · exact (number2 most hc hv1 h.free1 h1 h2 hcell hk (by omega)).mono (key 2 hk)
          · exact (number3 most hc hv1 h.free1 h1 h2 hcell hk (by omega)).mono (key 3 hk)
          · exact (number4 most hc hv1 h.free1 h1 h2 hcell hk (by omega)).mono (key 4 hk)
          · exact (number5 most hc hv1 h.free1 h1 h2 hcell hk (by omega)).mono (key 5 hk)
          · exact (number6 most hc hv1 h.free1 h1 h2 hcell hk (by omega)).mono (key 6 hk)
          · exact (number7 most hc hv1 h.free1 h1 h2 hcell hk (by omega)).mono (key 7 hk)
          · exact (number8 most hc hv1 h.free1 h1 h2 hcell hk (by omega)).mono (key 8 hk)

end Go.Proofs.Ytcgimbomandjfab
