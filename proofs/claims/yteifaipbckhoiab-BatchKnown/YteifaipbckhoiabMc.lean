/- The reader: numbers, raw, texts. -/
import Derived.Test.YteifaipbckhoiabNr
import Derived.Test.YteifaipbckhoiabMb
namespace Go.Proofs.Yteifaipbckhoiab
open Go.RowKit
set_option linter.unusedVariables false

section
variable {RB : Nat}

theorem Kp.drewN {S : Nat → Prop} {a w : World} (h : Kp S a w) (n : Nat) : Kp S a (w.drewN n) := ⟨h.os, h.tape, h.output, h.size, h.block⟩

theorem Rd.drewN {w : World} {rb : Nat} {l : List Int} {e : Int} (h : Rd RB w rb l e) (n : Nat) : Rd RB (w.drewN n) rb l e := by
  obtain ⟨h0, h1, ⟨v, h2, h3⟩, h4, h5, h6⟩ := h
  exact ⟨h0, h1, ⟨v, h2, h3.keep ((Kp.refl (fun _ => False) w).drewN n) (fun _ _ _ h => h)⟩, h4, h5, h6⟩

/-- A reader behind a store of what is left. -/
theorem Rd.put {w : World} {rb : Nat} {l l' : List Int} {e : Int} (h : Rd RB w rb l e) {v' : Value} (hv : Bs (fun b => RB ≤ b ∧ b < rb) w v' l') : Rd RB (w.setCell ⟨rb, 1, none⟩ v') rb l' e := by
  obtain ⟨h0, h1, ⟨v, h2, h3⟩, h4, h5, h6⟩ := h
  refine ⟨by simpa using h0, ?_, ⟨v', ?_, hv.keep (S := fun b => b = rb) ((Kp.refl (fun b => b = rb) w).setCell ⟨rb, 1, none⟩ v' (fun _ => rfl)) (fun b _ h h' => by have h2 : b = rb := h'; omega)⟩, ?_, by simpa using h5, by simpa using h6⟩
  · simp [go_sem, h1]
  · simp [go_sem, h2]
  · simp [go_sem, h4]

/-- What is left of a row behind its first k bytes. -/
theorem Bs.rest {A : Nat → Prop} {w : World} {b off cap k : Nat} {l : List Int} (hl : Byt l) (hb : l.length ≤ 140737488355328) (hc : l.length ≤ cap) (hA : A b) (hlt : b < w.heap.size) (hcell : ∀ i, i < l.length → w.cell? ⟨b, off + i, none⟩ = some (.int .u8 (l.getD i 0)))
    {a : Option Addr} (hk : k ≤ l.length) (ha : k < l.length → a = some ⟨b, off + k, none⟩) (ha' : a = some ⟨b, off, none⟩ ∨ a = some ⟨b, off + k, none⟩) : Bs A w (.slice a (l.length - k) (cap - k)) (l.drop k) := by
  refine ⟨hl.drop k, by simp; omega, Or.inr ?_⟩
  by_cases h : k < l.length
  · refine ⟨b, off + k, cap - k, by rw [ha h, List.length_drop], by rw [List.length_drop]; omega, hA, hlt, fun i hi => ?_⟩
    rw [List.length_drop] at hi
    have := hcell (k + i) (by omega)
    rw [Nat.add_assoc, this]
    simp
  · have hn : ∀ i, ¬ i < (l.drop k).length := fun i hi => by rw [List.length_drop] at hi; omega
    rcases ha' with ha' | ha'
    · exact ⟨b, off, cap - k, by rw [ha', List.length_drop], by rw [List.length_drop]; omega, hA, hlt, fun i hi => absurd hi (hn i)⟩
    · exact ⟨b, off + k, cap - k, by rw [ha', List.length_drop], by rw [List.length_drop]; omega, hA, hlt, fun i hi => absurd hi (hn i)⟩

/-- How 'number' ends. -/
def NumEnd (RB : Nat) (w : World) (rb : Nat) (l : List Int) (most : Int) (e : Ending) (w' : World) : Prop :=
  e = .returned (.tuple #[.int .i64 (Num.num most l).1, .int .i64 (Num.num most l).2.1]) ∧ Rd RB w' rb (l.drop (Num.num most l).2.2) 0 ∧ Kp (fun b => b = rb) w w'

set_option maxHeartbeats 400000 in
theorem number_none {w : World} {rb : Nat} {a : Option Addr} {cap : Nat} (most : Int) (hc1 : w.cell? ⟨rb, 1, none⟩ = some (.slice a 0 cap)) :
    Calls Try.prog 56 #[.pointer (some ⟨rb, 0, none⟩), .int .i64 most] w fun e w' => e = .returned (.tuple #[.int .i64 0, .int .i64 3]) ∧ w' = w := by
  go_enter Try.func56, Try.ntmps56
  go_wp2
  go_ret2
  exact ⟨rfl, rfl⟩

set_option maxHeartbeats 400000 in
theorem number_nine {w : World} {rb b off cap n : Nat} (most x : Int) (hc1 : w.cell? ⟨rb, 1, none⟩ = some (.slice (some ⟨b, off, none⟩) n cap)) (hn : 0 < n)
    (hcx : w.cell? ⟨b, off, none⟩ = some (.int .u8 x)) (hx0 : 0 ≤ x) (hx1 : x ≤ 255) (hk : Num.told x = 9) :
    Calls Try.prog 56 #[.pointer (some ⟨rb, 0, none⟩), .int .i64 most] w fun e w' => e = .returned (.tuple #[.int .i64 0, .int .i64 4]) ∧ w' = w := by
  have hz : ((n : Int) == 0) = false := by rw [beq_eq_false_iff_ne]; omega
  have hpos : (0 : Int) < (n : Int) := by omega
  have HK : Hid (Num.told x = 9) := hk
  clear hk
  go_enter Try.func56, Try.ntmps56
  go_wp2_with (go_at_call 65; refine (told_is _ 9 _ hx0 hx1 HK.out).mono ?_; rintro e w' ⟨rfl, rfl⟩)
  go_ret2
  exact ⟨rfl, rfl⟩

set_option maxHeartbeats 400000 in
theorem number_short {w : World} {rb b off cap n k : Nat} (most x : Int) (hc1 : w.cell? ⟨rb, 1, none⟩ = some (.slice (some ⟨b, off, none⟩) n cap)) (hn : 0 < n)
    (hcx : w.cell? ⟨b, off, none⟩ = some (.int .u8 x)) (hx0 : 0 ≤ x) (hx1 : x ≤ 255) (hk : Num.told x = k) (h8 : k ≤ 8) (hs : n < k) :
    Calls Try.prog 56 #[.pointer (some ⟨rb, 0, none⟩), .int .i64 most] w fun e w' => e = .returned (.tuple #[.int .i64 0, .int .i64 3]) ∧ w' = w := by
  have hz : ((n : Int) == 0) = false := by rw [beq_eq_false_iff_ne]; omega
  have hpos : (0 : Int) < (n : Int) := by omega
  have h8' : (k : Int) ≤ 8 := by omega
  have hs' : (n : Int) < (k : Int) := by omega
  have HK : Hid (Num.told x = k) := hk
  clear hk
  go_enter Try.func56, Try.ntmps56
  go_wp2_with (go_at_call 65; refine (told_is _ k _ hx0 hx1 HK.out).mono ?_; rintro e w' ⟨rfl, rfl⟩)
  go_ret2
  exact ⟨rfl, rfl⟩

theorem number_any {w : World} {rb : Nat} {l : List Int} (h : Rd RB w rb l 0) (most : Int) :
    Calls Try.prog 56 #[.pointer (some ⟨rb, 0, none⟩), .int .i64 most] w fun e w' => NumEnd RB w rb l most e w' := by
  obtain ⟨v, hv1, hbs⟩ := h.left
  have hbs' := hbs
  obtain ⟨h1, h2, h3⟩ := hbs
  by_cases h0 : l.length = 0
  · obtain ⟨a, cap, rfl⟩ := hbs'.len
    rw [h0] at hv1
    refine (number_none most hv1).mono ?_
    rintro e w' ⟨rfl, rfl⟩
    have hn : Num.num most l = (0, 3, 0) := by unfold Num.num; rw [if_pos h0]
    refine ⟨by rw [hn], by rw [hn]; exact h, Kp.refl _ _⟩
  · rcases h3 with ⟨_, hnil⟩ | ⟨b, off, cap, rfl, hc, hA, hlt, hcell⟩
    · rw [hnil] at h0; exact absurd rfl h0
    · have hx := h1.get 0
      have hcx := hcell 0 (by omega)
      rw [Nat.add_zero] at hcx
      have htb := Num.told_bd (l.getD 0 0)
      by_cases h9 : Num.told (l.getD 0 0) = 9
      · refine (number_nine most _ hv1 (by omega) hcx hx.1 hx.2 h9).mono ?_
        rintro e w' ⟨rfl, rfl⟩
        have hn : Num.num most l = (0, 4, 0) := by unfold Num.num; rw [if_neg h0, if_pos h9]
        exact ⟨by rw [hn], by rw [hn]; exact h, Kp.refl _ _⟩
      · by_cases hs : l.length < Num.told (l.getD 0 0)
        · refine (number_short most _ hv1 (by omega) hcx hx.1 hx.2 rfl (by omega) hs).mono ?_
          rintro e w' ⟨rfl, rfl⟩
          have hn : Num.num most l = (0, 3, 0) := by unfold Num.num; rw [if_neg h0, if_neg h9, if_pos hs]
          exact ⟨by rw [hn], by rw [hn]; exact h, Kp.refl _ _⟩
        · have key : ∀ k, Num.told (l.getD 0 0) = k → ∀ e w', NumPost w rb b off cap l k most e w' → NumEnd RB w rb l most e w' := by
            intro k hk e w' hp
            obtain ⟨nq, hp⟩ := hp
            have hnum : Num.num most l = if Num.sz (Num.V l k (k - 1)) ≠ k ∨ most < Num.V l k (k - 1) then (0, 4, 0) else (Num.V l k (k - 1), 0, k) := by
              unfold Num.num; rw [if_neg h0, if_neg h9, if_neg hs, hk]
            rcases hp with ⟨hbad, rfl, rfl⟩ | ⟨⟨g1, g2⟩, rfl, a, ha, ha', rfl⟩
            · rw [if_pos hbad] at hnum
              exact ⟨by rw [hnum], by rw [hnum]; exact h.drewN nq, (Kp.refl _ _).drewN nq⟩
            · rw [if_neg (by rintro (q | q); exact q g1; omega)] at hnum
              refine ⟨by rw [hnum], ?_, ((Kp.refl (fun b => b = rb) w).drewN nq).setCell _ _ (fun _ => rfl)⟩
              rw [hnum]
              have hr : Bs (fun b => RB ≤ b ∧ b < rb) (w.drewN nq) (.slice a (l.length - k) (cap - k)) (l.drop k) := Bs.rest (A := fun b => RB ≤ b ∧ b < rb) (w := w.drewN nq) (b := b) (off := off) (k := k) h1 h2 hc hA hlt hcell (by omega) ha ha'
              exact (h.drewN nq).put hr
          have hk : Num.told (l.getD 0 0) = 1 ∨ Num.told (l.getD 0 0) = 2 ∨ Num.told (l.getD 0 0) = 3 ∨ Num.told (l.getD 0 0) = 4 ∨ Num.told (l.getD 0 0) = 5 ∨ Num.told (l.getD 0 0) = 6 ∨ Num.told (l.getD 0 0) = 7 ∨ Num.told (l.getD 0 0) = 8 := by omega
          rcases hk with hk | hk | hk | hk | hk | hk | hk | hk
          · exact (number1 most hc hv1 h.free1 h1 h2 hcell hk (by omega)).mono (key 1 hk)
          · exact (number2 most hc hv1 h.free1 h1 h2 hcell hk (by omega)).mono (key 2 hk)
          · exact (number3 most hc hv1 h.free1 h1 h2 hcell hk (by omega)).mono (key 3 hk)
          · exact (number4 most hc hv1 h.free1 h1 h2 hcell hk (by omega)).mono (key 4 hk)
          · exact (number5 most hc hv1 h.free1 h1 h2 hcell hk (by omega)).mono (key 5 hk)
          · exact (number6 most hc hv1 h.free1 h1 h2 hcell hk (by omega)).mono (key 6 hk)
          · exact (number7 most hc hv1 h.free1 h1 h2 hcell hk (by omega)).mono (key 7 hk)
          · exact (number8 most hc hv1 h.free1 h1 h2 hcell hk (by omega)).mono (key 8 hk)
end

section
variable {RB : Nat}

/-- How 'raw' ends: the bytes, the error, and what is left. -/
def RawEnd (RB : Nat) (w : World) (rb : Nat) (l : List Int) (n : Int) (e : Ending) (w' : World) : Prop :=
  (n < 0 ∧ e = .returned (.tuple #[.slice none 0 0, .int .i64 2]) ∧ w' = w) ∨
  (0 ≤ n ∧ (l.length : Int) < n ∧ e = .returned (.tuple #[.slice none 0 0, .int .i64 3]) ∧ w' = w) ∨
  (0 ≤ n ∧ n ≤ l.length ∧ ∃ a cap, e = .returned (.tuple #[.slice a (l.take n.toNat).length cap, .int .i64 0]) ∧
    Bs (fun b => w.heap.size ≤ b) w' (.slice a (l.take n.toNat).length cap) (l.take n.toNat) ∧ Fr w' (.slice a (l.take n.toNat).length cap) (l.take n.toNat).length ∧ Rd RB w' rb (l.drop n.toNat) 0 ∧ Kp (fun b => b = rb) w w')

set_option maxHeartbeats 400000 in
theorem raw_neg {w : World} {rb : Nat} (n : Int) (h : n < 0) :
    Calls Try.prog 79 #[.pointer (some ⟨rb, 0, none⟩), .int .i64 n] w fun e w' => e = .returned (.tuple #[.slice none 0 0, .int .i64 2]) ∧ w' = w := by
  go_enter Try.func79, Try.ntmps79
  go_wp2
  go_ret2
  exact ⟨rfl, rfl⟩

set_option maxHeartbeats 400000 in
theorem raw_short {w : World} {rb : Nat} {a : Option Addr} {k cap : Nat} (n : Int) (h0 : 0 ≤ n) (h : (k : Int) < n) (hc1 : w.cell? ⟨rb, 1, none⟩ = some (.slice a k cap)) :
    Calls Try.prog 79 #[.pointer (some ⟨rb, 0, none⟩), .int .i64 n] w fun e w' => e = .returned (.tuple #[.slice none 0 0, .int .i64 3]) ∧ w' = w := by
  go_enter Try.func79, Try.ntmps79
  go_wp2
  go_ret2
  exact ⟨rfl, rfl⟩

/-- The first n bytes of a row. -/
theorem Bs.front {A : Nat → Prop} {w : World} {b off cap n : Nat} {l : List Int} (hl : Byt l) (hb : l.length ≤ 140737488355328) (hc : l.length ≤ cap) (hA : A b) (hlt : b < w.heap.size) (hcell : ∀ i, i < l.length → w.cell? ⟨b, off + i, none⟩ = some (.int .u8 (l.getD i 0)))
    (hn : n ≤ l.length) : Bs A w (.slice (some ⟨b, off, none⟩) n cap) (l.take n) := by
  have hlen : (l.take n).length = n := by rw [List.length_take]; omega
  refine ⟨hl.take n, by omega, Or.inr ⟨b, off, cap, by rw [hlen], by omega, hA, hlt, fun i hi => ?_⟩⟩
  rw [hlen] at hi
  rw [hcell i (by omega)]
  simp [hi]

theorem Rd.keep {w w' : World} {rb : Nat} {l : List Int} {e : Int} (h : Rd RB w rb l e) (k : Below w.heap.size w w') : Rd RB w' rb l e := by
  obtain ⟨h0, h1, ⟨v, h2, h3⟩, h4, h5, h6⟩ := h
  refine ⟨Nat.lt_of_lt_of_le h0 k.size, (k.cell (p := ⟨rb, 0, none⟩) h0).trans h1, ⟨v, (k.cell (p := ⟨rb, 1, none⟩) h0).trans h2, h3.keep (kpB k (fun _ => False)) (fun _ _ _ h => h)⟩, (k.cell (p := ⟨rb, 2, none⟩) h0).trans h4, (k.frozen (p := ⟨rb, 1, none⟩) h0).trans h5, (k.frozen (p := ⟨rb, 2, none⟩) h0).trans h6⟩

theorem Fr.keep {w w' : World} {v : Value} {n : Nat} {S : Nat → Prop} (h : Fr w v n) {A : Nat → Prop} {l : List Int} (hb : Bs A w v l) (k : Kp S w w') (hs : ∀ b, b < w.heap.size → A b → ¬ S b) : Fr w' v n := by
  intro b off len cap hv i hi
  obtain ⟨_, _, h3⟩ := hb
  rcases h3 with ⟨hv', _⟩ | ⟨b', off', cap', hv', _, ha, hlt, _⟩
  · rw [hv'] at hv; cases hv
  · rw [hv'] at hv
    simp only [Value.slice.injEq, Option.some.injEq, Addr.mk.injEq] at hv
    obtain ⟨⟨rfl, rfl, _⟩, _, _⟩ := hv
    rw [k.frozen (p := ⟨b', off' + i, none⟩) hlt (hs b' hlt ha)]
    exact h b' off' _ _ hv' i hi

/-- How 'raw' ends where the bytes are there. -/
def RawSome (w : World) (rb b off cap n k : Nat) (l : List Int) (e : Ending) (w' : World) : Prop :=
  ∃ a c w1 a', e = .returned (.tuple #[.slice a n c, .int .i64 0]) ∧ w' = w1.setCell ⟨rb, 1, none⟩ (.slice a' (k - n) (cap - n)) ∧
      (n < k → a' = some ⟨b, off + n, none⟩) ∧ (a' = some ⟨b, off, none⟩ ∨ a' = some ⟨b, off + n, none⟩) ∧
      Bs (fun b => w.heap.size ≤ b) w1 (.slice a n c) l ∧ Fr w1 (.slice a n c) n ∧ Below w.heap.size w w1

set_option maxHeartbeats 1000000 in
theorem raw_some {w : World} {rb b off cap n k : Nat} (hc : k ≤ cap) (hn : n ≤ k) (hrb : rb < w.heap.size)
    (hc1 : w.cell? ⟨rb, 1, none⟩ = some (.slice (some ⟨b, off, none⟩) k cap)) (hf1 : w.frozen? ⟨rb, 1, none⟩ = false) {l : List Int}
    (h : Bs (fun _ => True) w (.slice (some ⟨b, off, none⟩) n cap) l) (hlen : l.length = n) :
    Calls Try.prog 79 #[.pointer (some ⟨rb, 0, none⟩), .int .i64 n] w fun e w' => RawSome w rb b off cap n k l e w' := by
  have H : Hid (Bs (fun _ => True) w (.slice (some ⟨b, off, none⟩) n cap) l) := h
  clear h
  have HL : Hid (l.length = n) := hlen
  clear hlen
  have hn' : (n : Int) ≤ (k : Int) := by omega
  have hc' : (k : Int) ≤ (cap : Int) := by omega
  go_enter Try.func79, Try.ntmps79
  go_wp2_with fail
  refine (clone_any H.out).mono ?_
  rintro e w1 ⟨a, c, rfl, hb1, hf, hk⟩
  rw [HL.out] at hb1 hf ⊢
  have HB := hd hb1
  have HF := hd hf
  have HW := hd hk
  have hd1 : w1.cell? ⟨rb, 1, none⟩ = some (.slice (some ⟨b, off, none⟩) k cap) := (hk.cell (p := ⟨rb, 1, none⟩) hrb).trans hc1
  have hd2 : w1.frozen? ⟨rb, 1, none⟩ = false := (hk.frozen (p := ⟨rb, 1, none⟩) hrb).trans hf1
  clear hb1 hf hk
  go_wp2
  all_goals go_ret2
  · exact ⟨a, c, w1, _, rfl, by rw [Nat.sub_self], fun h => by omega, Or.inl rfl, HB.out, HF.out, HW.out⟩
  · exact ⟨a, c, w1, _, rfl, rfl, fun h => rfl, Or.inr rfl, HB.out, HF.out, HW.out⟩

set_option maxHeartbeats 1000000 in
theorem raw_nil {w : World} {rb : Nat} (hc1 : w.cell? ⟨rb, 1, none⟩ = some (.slice none 0 0)) (hf1 : w.frozen? ⟨rb, 1, none⟩ = false) :
    Calls Try.prog 79 #[.pointer (some ⟨rb, 0, none⟩), .int .i64 0] w fun e w' => e = .returned (.tuple #[.slice none 0 0, .int .i64 0]) ∧ w' = w.setCell ⟨rb, 1, none⟩ (.slice none 0 0) := by
  go_enter Try.func79, Try.ntmps79
  go_wp2_with (go_at_call 43; refine (clone_nil _).mono ?_; rintro e w' ⟨rfl, rfl⟩)
  go_ret2
  exact ⟨rfl, rfl⟩

theorem raw_any {w : World} {rb : Nat} {l : List Int} (h : Rd RB w rb l 0) (n : Int) :
    Calls Try.prog 79 #[.pointer (some ⟨rb, 0, none⟩), .int .i64 n] w fun e w' => RawEnd RB w rb l n e w' := by
  by_cases h0 : n < 0
  · exact (raw_neg n h0).mono fun e w' he => Or.inl ⟨h0, he⟩
  · obtain ⟨v, hv, hbs⟩ := h.left
    by_cases hs : (l.length : Int) < n
    · obtain ⟨a, cap, rfl⟩ := hbs.len
      exact (raw_short n (by omega) hs hv).mono fun e w' he => Or.inr (Or.inl ⟨by omega, hs, he⟩)
    · obtain ⟨m, rfl⟩ := Int.eq_ofNat_of_zero_le (by omega : 0 ≤ n)
      have hm : m ≤ l.length := by omega
      have hlen : (l.take m).length = m := by rw [List.length_take]; omega
      have hbs' := hbs
      obtain ⟨h1, h2, h3⟩ := hbs
      rcases h3 with ⟨rfl, rfl⟩ | ⟨b, off, cap, rfl, hc, hA, hlt, hcell⟩
      · have hm0 : m = 0 := by simpa using hm
        subst hm0
        refine (raw_nil hv h.free1).mono ?_
        rintro e w' ⟨rfl, rfl⟩
        refine Or.inr (Or.inr ⟨by omega, by simp, none, 0, rfl, ⟨Byt.nil, by simp, Or.inl ⟨rfl, rfl⟩⟩, Fr.ofNil _ _ _ _, ?_, ?_⟩)
        · exact h.put ⟨Byt.nil, by simp, Or.inl ⟨rfl, rfl⟩⟩
        · exact (Kp.refl (fun b => b = rb) w).setCell ⟨rb, 1, none⟩ _ (fun _ => rfl)
      · refine (raw_some hc hm h.lt hv h.free1 (Bs.front h1 h2 hc trivial hlt hcell hm) hlen).mono ?_
        rintro e w' ⟨a, c, w1, a', rfl, rfl, ha, ha', hb1, hf, hk⟩
        have hkp := (Kp.refl (fun b => b = rb) w1).setCell ⟨rb, 1, none⟩ (.slice a' (l.length - m) (cap - m)) (fun _ => rfl)
        have hne : ∀ b, b < w1.heap.size → w.heap.size ≤ b → ¬ b = rb := fun b _ hb e => by have := h.lt; omega
        refine Or.inr (Or.inr ⟨by omega, by omega, a, c, ?_, ?_, ?_, ?_, ?_⟩)
        · rw [Int.toNat_natCast, hlen]
        · rw [Int.toNat_natCast, hlen]; exact hb1.keep hkp hne
        · rw [Int.toNat_natCast, hlen]; exact hf.keep hb1 hkp hne
        · rw [Int.toNat_natCast]
          refine (h.keep hk).put ?_
          exact Bs.rest (A := fun b => RB ≤ b ∧ b < rb) (w := w1) (b := b) (off := off) (k := m) h1 h2 hc hA (Nat.lt_of_lt_of_le hlt hk.size) (fun i hi => (hk.cell (p := ⟨b, off + i, none⟩) hlt).trans (hcell i hi)) hm ha ha'
        · exact (kpB hk (fun b => b = rb)).trans hkp
end

section
variable {RB : Nat}

theorem number_is {w : World} {rb : Nat} {l : List Int} (h : Rd RB w rb l 0) (most n er : Int) (k : Nat) (hn : Num.num most l = (n, er, k)) :
    Calls Try.prog 56 #[.pointer (some ⟨rb, 0, none⟩), .int .i64 most] w fun e w' => e = .returned (.tuple #[.int .i64 n, .int .i64 er]) ∧ Rd RB w' rb (l.drop k) 0 ∧ Kp (fun b => b = rb) w w' := by
  refine (number_any h most).mono ?_
  rintro e w' ⟨h1, h2, h3⟩
  rw [hn] at h1 h2
  exact ⟨h1, h2, h3⟩

set_option maxHeartbeats 400000 in
theorem takeI_err {w : World} {rb : Nat} {l : List Int} {e0 : Int} (h : Rd RB w rb l e0) (he : e0 ≠ 0) (most : Int) (f : Value) :
    Calls Try.prog 55 #[.pointer (some ⟨rb, 0, none⟩), f, .int .i64 most] w fun e w' => e = .returned (.int .i64 0) ∧ w' = w := by
  have H : Hid (Rd RB w rb l e0) := h
  have hm : (e0 != 0) = true := by simpa using he
  clear h he
  go_enter Try.func55, Try.ntmps55
  go_wp2_with (go_at_call 29; refine (Err_any H.out).mono ?_; rintro e w' ⟨rfl, rfl⟩)
  go_ret
  exact ⟨rfl, rfl⟩

set_option maxHeartbeats 400000 in
theorem takeI_bad {w : World} {rb : Nat} {l : List Int} (h : Rd RB w rb l 0) (most n er : Int) (k : Nat) (hn : Num.num most l = (n, er, k)) (he : er ≠ 0) :
    Calls Try.prog 55 #[.pointer (some ⟨rb, 0, none⟩), .func (Fn.func 56) #[.pointer (some ⟨rb, 0, none⟩)] #[], .int .i64 most] w fun e w' => e = .returned (.int .i64 0) ∧ Rd RB w' rb [] er ∧ Kp (fun b => b = rb) w w' := by
  have H : Hid (Rd RB w rb l 0) := h
  have hm : (er != 0) = true := by simpa using he
  have HE : Hid (er ≠ 0) := he
  have HN : Hid (Num.num most l = (n, er, k)) := hn
  clear h he hn
  go_enter Try.func55, Try.ntmps55
  go_wp2_with (first
    | (go_at_call 29; refine (Err_any H.out).mono ?_; rintro e w' ⟨rfl, rfl⟩)
    | (go_at_call 56; refine (number_is H.out most n er k HN.out).mono ?_; rintro e w1 ⟨rfl, hr, hk⟩; have HR := hd hr; have HKP := hd hk; clear hr hk)
    | (go_at_call 45; refine (Fail_new HR.out HE.out).mono ?_; rintro e w2 ⟨rfl, rfl⟩))
  go_ret
  exact ⟨rfl, HR.out.fail er, HKP.out.trans (kp_fail _ _ _ _)⟩

set_option maxHeartbeats 400000 in
theorem takeI_ok {w : World} {rb : Nat} {l : List Int} (h : Rd RB w rb l 0) (most n : Int) (k : Nat) (hn : Num.num most l = (n, 0, k)) :
    Calls Try.prog 55 #[.pointer (some ⟨rb, 0, none⟩), .func (Fn.func 56) #[.pointer (some ⟨rb, 0, none⟩)] #[], .int .i64 most] w fun e w' => e = .returned (.int .i64 n) ∧ Rd RB w' rb (l.drop k) 0 ∧ Kp (fun b => b = rb) w w' := by
  have H : Hid (Rd RB w rb l 0) := h
  have HN : Hid (Num.num most l = (n, 0, k)) := hn
  clear h hn
  go_enter Try.func55, Try.ntmps55
  go_wp2_with (first
    | (go_at_call 29; refine (Err_any H.out).mono ?_; rintro e w' ⟨rfl, rfl⟩)
    | (go_at_call 56; refine (number_is H.out most n 0 k HN.out).mono ?_; rintro e w1 ⟨rfl, hr, hk⟩; have HR := hd hr; have HKP := hd hk; clear hr hk))
  go_ret
  exact ⟨rfl, HR.out, HKP.out⟩

/-- What a reader tells when a number up to 'most' is asked of it, what is left, and its error. -/
def uStep (most : Int) (l : List Int) (e : Int) : Int × List Int × Int :=
  if e ≠ 0 then (0, l, e) else if (Num.num most l).2.1 ≠ 0 then (0, [], (Num.num most l).2.1) else ((Num.num most l).1, l.drop (Num.num most l).2.2, 0)

theorem takeI_any {w : World} {rb : Nat} {l : List Int} {e0 : Int} (h : Rd RB w rb l e0) (most : Int) :
    Calls Try.prog 55 #[.pointer (some ⟨rb, 0, none⟩), .func (Fn.func 56) #[.pointer (some ⟨rb, 0, none⟩)] #[], .int .i64 most] w fun e w' =>
      e = .returned (.int .i64 (uStep most l e0).1) ∧ Rd RB w' rb (uStep most l e0).2.1 (uStep most l e0).2.2 ∧ Kp (fun b => b = rb) w w' := by
  unfold uStep
  by_cases he : e0 ≠ 0
  · rw [if_pos he]
    refine (takeI_err h he most _).mono ?_
    rintro e w' ⟨rfl, rfl⟩
    exact ⟨rfl, h, Kp.refl _ _⟩
  · rw [if_neg he]
    have he' : e0 = 0 := by simpa using he
    subst he'
    obtain ⟨n, er, k, hn⟩ : ∃ n er k, Num.num most l = (n, er, k) := ⟨_, _, _, rfl⟩
    rw [hn]
    by_cases h2 : er ≠ 0
    · rw [if_pos h2]; exact takeI_bad h most n er k hn h2
    · rw [if_neg h2]
      have h2' : er = 0 := by simpa using h2
      subst h2'
      exact takeI_ok h most n k hn

theorem takeI_is {w : World} {rb : Nat} {l l' : List Int} {e0 e1 : Int} (h : Rd RB w rb l e0) (most n : Int) (hs : uStep most l e0 = (n, l', e1)) :
    Calls Try.prog 55 #[.pointer (some ⟨rb, 0, none⟩), .func (Fn.func 56) #[.pointer (some ⟨rb, 0, none⟩)] #[], .int .i64 most] w fun e w' =>
      e = .returned (.int .i64 n) ∧ Rd RB w' rb l' e1 ∧ Kp (fun b => b = rb) w w' := by
  refine (takeI_any h most).mono ?_
  rw [hs]
  exact fun e w' h => h

set_option maxHeartbeats 400000 in
theorem RU_is {w : World} {rb : Nat} {l l' : List Int} {e0 e1 : Int} (h : Rd RB w rb l e0) (n : Int) (hs : uStep 9007199254740991 l e0 = (n, l', e1)) :
    Calls Try.prog 44 #[.pointer (some ⟨rb, 0, none⟩)] w fun e w' => e = .returned (.int .i64 n) ∧ Rd RB w' rb l' e1 ∧ Kp (fun b => b = rb) w w' := by
  have H : Hid (Rd RB w rb l e0) := h
  have HS : Hid (uStep 9007199254740991 l e0 = (n, l', e1)) := hs
  clear h hs
  go_enter Try.func44, Try.ntmps44
  go_wp2_with (go_at_call 55; refine (takeI_is H.out _ n HS.out).mono ?_; rintro e w1 ⟨rfl, hr, hk⟩; have HR := hd hr; have HKP := hd hk; clear hr hk)
  go_ret
  exact ⟨rfl, HR.out, HKP.out⟩

theorem num_bd (most : Int) (l : List Int) (hm : 0 ≤ most) (hl : Byt l) : 0 ≤ (Num.num most l).1 ∧ (Num.num most l).1 ≤ most := by
  have ht := Num.told_bd (l.getD 0 0)
  unfold Num.num
  repeat' split
  all_goals try exact ⟨Int.le_refl 0, hm⟩
  rename_i h0 h9 hs hb
  have hv := Num.V_bd l (Num.told (l.getD 0 0)) (fun i => hl.get i) (by omega) (by omega)
  exact ⟨hv.2.1, by omega⟩

theorem uStep_bd (most : Int) (l : List Int) (e : Int) (hm : 0 ≤ most) (hl : Byt l) : 0 ≤ (uStep most l e).1 ∧ (uStep most l e).1 ≤ most := by
  have h := num_bd most l hm hl
  unfold uStep
  repeat' split
  · exact ⟨Int.le_refl 0, hm⟩
  · exact ⟨Int.le_refl 0, hm⟩
  · exact h

theorem Rd.byt {w : World} {rb : Nat} {l : List Int} {e : Int} (h : Rd RB w rb l e) : Byt l := by
  obtain ⟨v, _, hb⟩ := h.left
  exact hb.1

set_option maxHeartbeats 400000 in
theorem RS_is {w : World} {rb : Nat} {l l' : List Int} {e0 e1 : Int} (h : Rd RB w rb l e0) (n : Int) (hs : uStep 18014398509481982 l e0 = (n, l', e1)) :
    Calls Try.prog 80 #[.pointer (some ⟨rb, 0, none⟩)] w fun e w' => e = .returned (.int .i64 (unfoldI n)) ∧ Rd RB w' rb l' e1 ∧ Kp (fun b => b = rb) w w' := by
  have H : Hid (Rd RB w rb l e0) := h
  have HS : Hid (uStep 18014398509481982 l e0 = (n, l', e1)) := hs
  have hb := uStep_bd 18014398509481982 l e0 (by omega) h.byt
  rw [hs] at hb
  obtain ⟨hb0, hb1⟩ := hb
  clear h hs
  go_enter Try.func80, Try.ntmps80
  go_wp2_with (first
    | (go_at_call 55; refine (takeI_is H.out _ n HS.out).mono ?_; rintro e w1 ⟨rfl, hr, hk⟩; have HR := hd hr; have HKP := hd hk; clear hr hk)
    | (go_at_call 85; refine (unfold_any _ _ hb0 hb1).mono ?_; rintro e w1 ⟨rfl, rfl⟩))
  go_ret
  exact ⟨rfl, HR.out, HKP.out⟩
end

section
variable {RB : Nat}

/-- What taking n bytes off tells: the error, the bytes, what is left. -/
def rawR (n : Int) (l : List Int) : Int × List Int × List Int :=
  if n < 0 then (2, [], l) else if (l.length : Int) < n then (3, [], l) else (0, l.take n.toNat, l.drop n.toNat)

/-- What taking a text off tells. -/
def textR (most : Int) (l : List Int) : Int × List Int × List Int :=
  if (Num.num 9007199254740991 l).2.1 ≠ 0 then ((Num.num 9007199254740991 l).2.1, [], l.drop (Num.num 9007199254740991 l).2.2)
  else if most < (Num.num 9007199254740991 l).1 then (5, [], l.drop (Num.num 9007199254740991 l).2.2)
  else rawR (Num.num 9007199254740991 l).1 (l.drop (Num.num 9007199254740991 l).2.2)

/-- How a step ends that takes bytes off. -/
def StepEnd (RB : Nat) (w : World) (rb : Nat) (r : Int × List Int × List Int) (e : Ending) (w' : World) : Prop :=
  ∃ a cap, e = .returned (.tuple #[.slice a r.2.1.length cap, .int .i64 r.1]) ∧ Bs (fun b => w.heap.size ≤ b) w' (.slice a r.2.1.length cap) r.2.1 ∧ Fr w' (.slice a r.2.1.length cap) r.2.1.length ∧ Rd RB w' rb r.2.2 0 ∧ Kp (fun b => b = rb) w w'

theorem Bs.ofNil (A : Nat → Prop) (w : World) : Bs A w (.slice none 0 0) [] := ⟨Byt.nil, by simp, Or.inl ⟨rfl, rfl⟩⟩

theorem StepEnd.none {w w' : World} {rb : Nat} {er : Int} {l : List Int} (hr : Rd RB w' rb l 0) (hk : Kp (fun b => b = rb) w w') : StepEnd RB w rb (er, [], l) (.returned (.tuple #[.slice none 0 0, .int .i64 er])) w' :=
  ⟨_, 0, rfl, Bs.ofNil _ _, Fr.ofNil _ _ _ _, hr, hk⟩

theorem raw_step {w : World} {rb : Nat} {l : List Int} (h : Rd RB w rb l 0) (n : Int) :
    Calls Try.prog 79 #[.pointer (some ⟨rb, 0, none⟩), .int .i64 n] w fun e w' => StepEnd RB w rb (rawR n l) e w' := by
  refine (raw_any h n).mono ?_
  intro e w' he
  unfold rawR
  rcases he with ⟨h0, rfl, rfl⟩ | ⟨h0, h1, rfl, rfl⟩ | ⟨h0, h1, a, cap, rfl, hb, hf, hr, hk⟩
  · rw [if_pos h0]; exact StepEnd.none h (Kp.refl _ _)
  · rw [if_neg (by omega), if_pos h1]; exact StepEnd.none h (Kp.refl _ _)
  · rw [if_neg (by omega), if_neg (by omega)]; exact ⟨a, cap, rfl, hb, hf, hr, hk⟩

/-- A step behind another one. -/
theorem StepEnd.after {w w1 w' : World} {rb : Nat} {r : Int × List Int × List Int} {e : Ending} (hk : Kp (fun b => b = rb) w w1) (h : StepEnd RB w1 rb r e w') : StepEnd RB w rb r e w' := by
  obtain ⟨a, cap, he, hb, hf, hr, hk'⟩ := h
  exact ⟨a, cap, he, hb.weaken (fun b _ hb' => Nat.le_trans hk.size hb'), hf, hr, hk.trans hk'⟩

set_option maxHeartbeats 400000 in
theorem text_bad {w : World} {rb : Nat} {l : List Int} (h : Rd RB w rb l 0) (most n er : Int) (k : Nat) (hn : Num.num 9007199254740991 l = (n, er, k)) (he : er ≠ 0) :
    Calls Try.prog 67 #[.pointer (some ⟨rb, 0, none⟩), .int .i64 most] w fun e w' => StepEnd RB w rb (er, [], l.drop k) e w' := by
  have H : Hid (Rd RB w rb l 0) := h
  have hm : (er != 0) = true := by simpa using he
  have HN := hd hn
  clear h he hn
  go_enter Try.func67, Try.ntmps67
  go_wp2_with (go_at_call 56; refine (number_is H.out _ n er k HN.out).mono ?_; rintro e w1 ⟨rfl, hr, hk⟩; have HR := hd hr; have HKP := hd hk; clear hr hk)
  go_ret2
  exact StepEnd.none HR.out HKP.out

set_option maxHeartbeats 400000 in
theorem text_much {w : World} {rb : Nat} {l : List Int} (h : Rd RB w rb l 0) (most n : Int) (k : Nat) (hn : Num.num 9007199254740991 l = (n, 0, k)) (he : most < n) :
    Calls Try.prog 67 #[.pointer (some ⟨rb, 0, none⟩), .int .i64 most] w fun e w' => StepEnd RB w rb (5, [], l.drop k) e w' := by
  have H : Hid (Rd RB w rb l 0) := h
  have HN := hd hn
  clear h hn
  go_enter Try.func67, Try.ntmps67
  go_wp2_with (go_at_call 56; refine (number_is H.out _ n 0 k HN.out).mono ?_; rintro e w1 ⟨rfl, hr, hk⟩; have HR := hd hr; have HKP := hd hk; clear hr hk)
  go_ret2
  exact StepEnd.none HR.out HKP.out

set_option maxHeartbeats 400000 in
theorem text_go {w : World} {rb : Nat} {l : List Int} (h : Rd RB w rb l 0) (most n : Int) (k : Nat) (hn : Num.num 9007199254740991 l = (n, 0, k)) (he : n ≤ most) :
    Calls Try.prog 67 #[.pointer (some ⟨rb, 0, none⟩), .int .i64 most] w fun e w' => StepEnd RB w rb (rawR n (l.drop k)) e w' := by
  have H : Hid (Rd RB w rb l 0) := h
  have HN := hd hn
  clear h hn
  go_enter Try.func67, Try.ntmps67
  go_wp2_with (first
    | (go_at_call 56; refine (number_is H.out _ n 0 k HN.out).mono ?_; rintro e w1 ⟨rfl, hr, hk⟩; have HR := hd hr; have HKP := hd hk; clear hr hk)
    | (go_at_call 79; refine (raw_step HR.out n).mono ?_; rintro e w2 hst; have HST := hd hst; obtain ⟨a, cap, rfl, _, _, _, _⟩ := hst))
  go_ret2
  exact StepEnd.after HKP.out HST.out

theorem text_step {w : World} {rb : Nat} {l : List Int} (h : Rd RB w rb l 0) (most : Int) :
    Calls Try.prog 67 #[.pointer (some ⟨rb, 0, none⟩), .int .i64 most] w fun e w' => StepEnd RB w rb (textR most l) e w' := by
  obtain ⟨n, er, k, hn⟩ : ∃ n er k, Num.num 9007199254740991 l = (n, er, k) := ⟨_, _, _, rfl⟩
  unfold textR
  rw [hn]
  by_cases h2 : er ≠ 0
  · rw [if_pos h2]; exact text_bad h most n er k hn h2
  · have h2' : er = 0 := by simpa using h2
    subst h2'
    rw [if_neg h2]
    by_cases h3 : most < n
    · rw [if_pos h3]; exact text_much h most n k hn h3
    · rw [if_neg h3]; exact text_go h most n k hn (by omega)

set_option maxHeartbeats 400000 in
theorem takeB_err {w : World} {rb : Nat} {l : List Int} {e0 : Int} (h : Rd RB w rb l e0) (he : e0 ≠ 0) (most : Int) (f : Value) :
    Calls Try.prog 66 #[.pointer (some ⟨rb, 0, none⟩), f, .int .i64 most] w fun e w' => e = .returned (.slice none 0 0) ∧ w' = w := by
  have H : Hid (Rd RB w rb l e0) := h
  have hm : (e0 != 0) = true := by simpa using he
  clear h he
  go_enter Try.func66, Try.ntmps66
  go_wp2_with (go_at_call 29; refine (Err_any H.out).mono ?_; rintro e w' ⟨rfl, rfl⟩)
  go_ret
  exact ⟨rfl, rfl⟩

/-- What a step tells a reader: the bytes, what is left, and its error. -/
def bStep (r : Int × List Int × List Int) (l : List Int) (e : Int) : List Int × List Int × Int :=
  if e ≠ 0 then ([], l, e) else if r.1 ≠ 0 then ([], [], r.1) else (r.2.1, r.2.2, 0)

def TakeEnd (RB : Nat) (w : World) (rb : Nat) (r : List Int × List Int × Int) (e : Ending) (w' : World) : Prop :=
  ∃ a cap, e = .returned (.slice a r.1.length cap) ∧ Bs (fun b => w.heap.size ≤ b) w' (.slice a r.1.length cap) r.1 ∧ Fr w' (.slice a r.1.length cap) r.1.length ∧ Rd RB w' rb r.2.1 r.2.2 ∧ Kp (fun b => b = rb) w w'

set_option maxHeartbeats 400000 in
theorem takeB_badT {w : World} {rb : Nat} {l : List Int} (h : Rd RB w rb l 0) (n er : Int) (bs rest : List Int) (hs : Calls Try.prog 67 #[.pointer (some ⟨rb, 0, none⟩), .int .i64 n] w fun e w' => StepEnd RB w rb (er, bs, rest) e w') (he : er ≠ 0) :
    Calls Try.prog 66 #[.pointer (some ⟨rb, 0, none⟩), .func (Fn.func 67) #[.pointer (some ⟨rb, 0, none⟩)] #[], .int .i64 n] w fun e w' => TakeEnd RB w rb ([], [], er) e w' := by
  have H : Hid (Rd RB w rb l 0) := h
  have HC : Hid (Calls Try.prog 67 #[.pointer (some ⟨rb, 0, none⟩), .int .i64 n] w fun e w' => StepEnd RB w rb (er, bs, rest) e w') := hs
  have hm : (er != 0) = true := by simpa using he
  have HE : Hid (er ≠ 0) := he
  clear h he hs
  go_enter Try.func66, Try.ntmps66
  go_wp2_with (first
    | (go_at_call 29; refine (Err_any H.out).mono ?_; rintro e w' ⟨rfl, rfl⟩)
    | (go_at_call 67; refine (HC.out).mono ?_; rintro e w2 hst; have HST := hd hst; obtain ⟨a, cap, rfl, _, _, hr, hk⟩ := hst; have HR := hd hr; have HKP := hd hk; clear hr hk)
    | (go_at_call 45; refine (Fail_new HR.out HE.out).mono ?_; rintro e w2 ⟨rfl, rfl⟩))
  go_ret
  exact ⟨_, 0, rfl, Bs.ofNil _ _, Fr.ofNil _ _ _ _, HR.out.fail er, HKP.out.trans (kp_fail _ _ _ _)⟩

set_option maxHeartbeats 400000 in
theorem takeB_okT {w : World} {rb : Nat} {l : List Int} (h : Rd RB w rb l 0) (n : Int) (bs rest : List Int) (hs : Calls Try.prog 67 #[.pointer (some ⟨rb, 0, none⟩), .int .i64 n] w fun e w' => StepEnd RB w rb (0, bs, rest) e w') :
    Calls Try.prog 66 #[.pointer (some ⟨rb, 0, none⟩), .func (Fn.func 67) #[.pointer (some ⟨rb, 0, none⟩)] #[], .int .i64 n] w fun e w' => TakeEnd RB w rb (bs, rest, 0) e w' := by
  have H : Hid (Rd RB w rb l 0) := h
  have HC : Hid (Calls Try.prog 67 #[.pointer (some ⟨rb, 0, none⟩), .int .i64 n] w fun e w' => StepEnd RB w rb (0, bs, rest) e w') := hs
  clear h hs
  go_enter Try.func66, Try.ntmps66
  go_wp2_with (first
    | (go_at_call 29; refine (Err_any H.out).mono ?_; rintro e w' ⟨rfl, rfl⟩)
    | (go_at_call 67; refine (HC.out).mono ?_; rintro e w2 hst; obtain ⟨a, cap, rfl, hb, hf, hr, hk⟩ := hst; have HB := hd hb; have HF := hd hf; have HR := hd hr; have HKP := hd hk; clear hr hk hb hf))
  go_ret
  exact ⟨a, cap, rfl, HB.out, HF.out, HR.out, HKP.out⟩

theorem takeBT {w : World} {rb : Nat} {l : List Int} {e0 : Int} (h : Rd RB w rb l e0) (n : Int) (r : Int × List Int × List Int) (hs : Rd RB w rb l 0 → Calls Try.prog 67 #[.pointer (some ⟨rb, 0, none⟩), .int .i64 n] w fun e w' => StepEnd RB w rb r e w') :
    Calls Try.prog 66 #[.pointer (some ⟨rb, 0, none⟩), .func (Fn.func 67) #[.pointer (some ⟨rb, 0, none⟩)] #[], .int .i64 n] w fun e w' => TakeEnd RB w rb (bStep r l e0) e w' := by
  unfold bStep
  by_cases he : e0 ≠ 0
  · rw [if_pos he]
    refine (takeB_err h he n _).mono ?_
    rintro e w' ⟨rfl, rfl⟩
    exact ⟨_, 0, rfl, Bs.ofNil _ _, Fr.ofNil _ _ _ _, h, Kp.refl _ _⟩
  · rw [if_neg he]
    have he' : e0 = 0 := by simpa using he
    subst he'
    obtain ⟨er, bs, rest⟩ := r
    by_cases h2 : er ≠ 0
    · rw [if_pos h2]; exact takeB_badT h n er bs rest (hs h) h2
    · rw [if_neg h2]
      have h2' : er = 0 := by simpa using h2
      subst h2'
      exact takeB_okT h n bs rest (hs h)

set_option maxHeartbeats 400000 in
theorem takeB_badR {w : World} {rb : Nat} {l : List Int} (h : Rd RB w rb l 0) (n er : Int) (bs rest : List Int) (hs : Calls Try.prog 79 #[.pointer (some ⟨rb, 0, none⟩), .int .i64 n] w fun e w' => StepEnd RB w rb (er, bs, rest) e w') (he : er ≠ 0) :
    Calls Try.prog 66 #[.pointer (some ⟨rb, 0, none⟩), .func (Fn.func 79) #[.pointer (some ⟨rb, 0, none⟩)] #[], .int .i64 n] w fun e w' => TakeEnd RB w rb ([], [], er) e w' := by
  have H : Hid (Rd RB w rb l 0) := h
  have HC : Hid (Calls Try.prog 79 #[.pointer (some ⟨rb, 0, none⟩), .int .i64 n] w fun e w' => StepEnd RB w rb (er, bs, rest) e w') := hs
  have hm : (er != 0) = true := by simpa using he
  have HE : Hid (er ≠ 0) := he
  clear h he hs
  go_enter Try.func66, Try.ntmps66
  go_wp2_with (first
    | (go_at_call 29; refine (Err_any H.out).mono ?_; rintro e w' ⟨rfl, rfl⟩)
    | (go_at_call 79; refine (HC.out).mono ?_; rintro e w2 hst; have HST := hd hst; obtain ⟨a, cap, rfl, _, _, hr, hk⟩ := hst; have HR := hd hr; have HKP := hd hk; clear hr hk)
    | (go_at_call 45; refine (Fail_new HR.out HE.out).mono ?_; rintro e w2 ⟨rfl, rfl⟩))
  go_ret
  exact ⟨_, 0, rfl, Bs.ofNil _ _, Fr.ofNil _ _ _ _, HR.out.fail er, HKP.out.trans (kp_fail _ _ _ _)⟩

set_option maxHeartbeats 400000 in
theorem takeB_okR {w : World} {rb : Nat} {l : List Int} (h : Rd RB w rb l 0) (n : Int) (bs rest : List Int) (hs : Calls Try.prog 79 #[.pointer (some ⟨rb, 0, none⟩), .int .i64 n] w fun e w' => StepEnd RB w rb (0, bs, rest) e w') :
    Calls Try.prog 66 #[.pointer (some ⟨rb, 0, none⟩), .func (Fn.func 79) #[.pointer (some ⟨rb, 0, none⟩)] #[], .int .i64 n] w fun e w' => TakeEnd RB w rb (bs, rest, 0) e w' := by
  have H : Hid (Rd RB w rb l 0) := h
  have HC : Hid (Calls Try.prog 79 #[.pointer (some ⟨rb, 0, none⟩), .int .i64 n] w fun e w' => StepEnd RB w rb (0, bs, rest) e w') := hs
  clear h hs
  go_enter Try.func66, Try.ntmps66
  go_wp2_with (first
    | (go_at_call 29; refine (Err_any H.out).mono ?_; rintro e w' ⟨rfl, rfl⟩)
    | (go_at_call 79; refine (HC.out).mono ?_; rintro e w2 hst; obtain ⟨a, cap, rfl, hb, hf, hr, hk⟩ := hst; have HB := hd hb; have HF := hd hf; have HR := hd hr; have HKP := hd hk; clear hr hk hb hf))
  go_ret
  exact ⟨a, cap, rfl, HB.out, HF.out, HR.out, HKP.out⟩

theorem takeBR {w : World} {rb : Nat} {l : List Int} {e0 : Int} (h : Rd RB w rb l e0) (n : Int) (r : Int × List Int × List Int) (hs : Rd RB w rb l 0 → Calls Try.prog 79 #[.pointer (some ⟨rb, 0, none⟩), .int .i64 n] w fun e w' => StepEnd RB w rb r e w') :
    Calls Try.prog 66 #[.pointer (some ⟨rb, 0, none⟩), .func (Fn.func 79) #[.pointer (some ⟨rb, 0, none⟩)] #[], .int .i64 n] w fun e w' => TakeEnd RB w rb (bStep r l e0) e w' := by
  unfold bStep
  by_cases he : e0 ≠ 0
  · rw [if_pos he]
    refine (takeB_err h he n _).mono ?_
    rintro e w' ⟨rfl, rfl⟩
    exact ⟨_, 0, rfl, Bs.ofNil _ _, Fr.ofNil _ _ _ _, h, Kp.refl _ _⟩
  · rw [if_neg he]
    have he' : e0 = 0 := by simpa using he
    subst he'
    obtain ⟨er, bs, rest⟩ := r
    by_cases h2 : er ≠ 0
    · rw [if_pos h2]; exact takeB_badR h n er bs rest (hs h) h2
    · rw [if_neg h2]
      have h2' : er = 0 := by simpa using h2
      subst h2'
      exact takeB_okR h n bs rest (hs h)

theorem conv_bs {A : Nat → Prop} {w : World} {v : Value} {l : List Int} (h : Bs A w v l) : (convert 27 9 v).run Try.prog w = .ok (.string (strOfNums l)) w := by
  obtain ⟨_, _, h3⟩ := h
  rcases h3 with ⟨rfl, rfl⟩ | ⟨b, off, cap, rfl, _, _, _, hcell⟩
  · exact run_convert_bytes_nil w 27 5 Try.underlying27 Try.underlying5 0 0 9 Try.underlying9
  · exact run_convert_bytes_arg w 27 5 Try.underlying27 Try.underlying5 b off l.length cap l rfl hcell 9 Try.underlying9

def TextEnd (RB : Nat) (w : World) (rb : Nat) (r : List Int × List Int × Int) (e : Ending) (w' : World) : Prop :=
  e = .returned (.string (strOfNums r.1)) ∧ Rd RB w' rb r.2.1 r.2.2 ∧ Kp (fun b => b = rb) w w'

set_option maxHeartbeats 400000 in
theorem RText_any {w : World} {rb : Nat} {l : List Int} {e0 : Int} (h : Rd RB w rb l e0) (n : Int) :
    Calls Try.prog 57 #[.pointer (some ⟨rb, 0, none⟩), .int .i64 n] w fun e w' => TextEnd RB w rb (bStep (textR n l) l e0) e w' := by
  have H : Hid (Rd RB w rb l e0) := h
  clear h
  go_enter Try.func57, Try.ntmps57
  go_wp2_with (go_at_call 66; refine (takeBT H.out n (textR n l) (fun h => text_step h n)).mono ?_; rintro e w2 hst; obtain ⟨a, cap, rfl, hb, hf, hr, hk⟩ := hst; have hcv := conv_bs hb; have HR := hd hr; have HKP := hd hk; clear hr hk hb hf)
  go_ret
  exact ⟨rfl, HR.out, HKP.out⟩
end

section
variable {RB : Nat}

def TrueEnd (w : World) (e : Ending) (w' : World) : Prop := e = .returned (.bool true) ∧ Below w.heap.size w w'

theorem below_kp {w w1 w2 : World} {rb : Nat} (h : Below w.heap.size w w1) (hr : w.heap.size ≤ rb) (k : Kp (fun b => b = rb) w1 w2) : Below w.heap.size w w2 :=
  h.trans (k.below w.heap.size h.size (fun i hi e => by omega))

theorem below_drewN {w w1 : World} {B : Nat} (h : Below B w w1) (n : Nat) : Below B w (w1.drewN n) := h.trans ⟨rfl, rfl, rfl, Nat.le_refl _, fun _ _ => rfl⟩

theorem below_below {w w1 w2 : World} (h : Below w.heap.size w w1) (k : Below w1.heap.size w1 w2) : Below w.heap.size w w2 := h.trans (k.mono h.size)

theorem Bs.keepB {A : Nat → Prop} {w w' : World} {v : Value} {l : List Int} (h : Bs A w v l) (k : Below w.heap.size w w') : Bs A w' v l :=
  h.keep (kpB k (fun _ => False)) (fun _ _ _ h => h)

theorem U_made (n : Int) (w : World) (h0 : 0 ≤ n) (h1 : n ≤ 9007199254740991) :
    Calls Try.prog 19 #[.int .i64 n] w fun e w' => MadeEnd w (Num.enc n) e w' := by
  refine (U_ok n w h0 h1).mono ?_
  rintro e w' ⟨rfl, rfl⟩
  have hl := Num.enc_length n
  have h8 := Num.sz_bd n h0
  exact ⟨_, _, rfl, (Bs.fresh0 w _ 5 _ (enc_byt n h0 (by omega)) (by omega) (Nat.le_refl _) _ (Nat.le_refl _)).drew, ((Below.refl _ _).alloc (Nat.le_refl _) _).drew⟩

theorem S_made (n : Int) (w : World) (h0 : -9007199254740991 ≤ n) (h1 : n ≤ 9007199254740991) :
    Calls Try.prog 83 #[.int .i64 n] w fun e w' => MadeEnd w (Num.enc (foldI n)) e w' := by
  have hf := foldI_bd n h0 h1
  refine (S_ok n w h0 h1).mono ?_
  rintro e w' ⟨rfl, rfl⟩
  have hl := Num.enc_length (foldI n)
  have h8 := Num.sz_bd (foldI n) hf.1
  exact ⟨_, _, rfl, (Bs.fresh0 w _ 5 _ (enc_byt (foldI n) hf.1 (by omega)) (by omega) (Nat.le_refl _) _ (Nat.le_refl _)).drew, ((Below.refl _ _).alloc (Nat.le_refl _) _).drew⟩

theorem eq_same {A B : Nat → Prop} {w : World} {va vb : Value} {l : List Int} (ha : Bs A w va l) (hb : Bs B w vb l) :
    Calls Try.prog 8 #[va, vb] w fun e w' => e = .returned (.bool true) ∧ ∃ m, w' = w.drewN m := by
  refine (eq_any ha hb).mono ?_
  rintro e w' ⟨rfl, m, rfl⟩
  exact ⟨by rw [decide_eq_true rfl], m, rfl⟩

theorem Left_zero {w : World} {rb : Nat} (h : Rd RB w rb [] 0) :
    Calls Try.prog 30 #[.pointer (some ⟨rb, 0, none⟩)] w fun e w' => e = .returned (.int .i64 0) ∧ w' = w := Left_ok h
end

end Go.Proofs.Yteifaipbckhoiab
