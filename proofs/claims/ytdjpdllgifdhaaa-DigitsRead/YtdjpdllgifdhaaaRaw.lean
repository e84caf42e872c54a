/- The reader's raw: so many bytes taken off. -/
import Derived.Test.YtdjpdllgifdhaaaNa
namespace Go.Proofs.Ytdjpdllgifdhaaa
open Go.RowKit
variable {RB : Nat}

/-- How 'raw' ends: the bytes, the error, and what is left. -/
def RawEnd (RB : Nat) (w : World) (rb : Nat) (l : List Int) (n : Int) (e : Ending) (w' : World) : Prop :=
  (n < 0 ∧ e = .returned (.tuple #[.slice none 0 0, .int .i64 2]) ∧ w' = w) ∨
  (0 ≤ n ∧ (l.length : Int) < n ∧ e = .returned (.tuple #[.slice none 0 0, .int .i64 3]) ∧ w' = w) ∨
  (0 ≤ n ∧ n ≤ l.length ∧ ∃ a cap, e = .returned (.tuple #[.slice a (l.take n.toNat).length cap, .int .i64 0]) ∧
    Bs (fun b => w.heap.size ≤ b) w' (.slice a (l.take n.toNat).length cap) (l.take n.toNat) ∧ Fr w' (.slice a (l.take n.toNat).length cap) (l.take n.toNat).length ∧ Rd RB w' rb (l.drop n.toNat) 0 ∧ Kp (fun b => b = rb) w w')

set_option maxHeartbeats 400000 in
theorem raw_neg {w : World} {rb : Nat} (n : Int) (h : n < 0) :
    Calls Try.prog 50 #[.pointer (some ⟨rb, 0, none⟩), .int .i64 n] w fun e w' => e = .returned (.tuple #[.slice none 0 0, .int .i64 2]) ∧ w' = w := by
  go_enter Try.func50, Try.ntmps50
  go_wp2
  go_ret2
  exact ⟨rfl, rfl⟩

set_option maxHeartbeats 400000 in
theorem raw_short {w : World} {rb : Nat} {a : Option Addr} {k cap : Nat} (n : Int) (h0 : 0 ≤ n) (h : (k : Int) < n) (hc1 : w.cell? ⟨rb, 1, none⟩ = some (.slice a k cap)) :
    Calls Try.prog 50 #[.pointer (some ⟨rb, 0, none⟩), .int .i64 n] w fun e w' => e = .returned (.tuple #[.slice none 0 0, .int .i64 3]) ∧ w' = w := by
  go_enter Try.func50, Try.ntmps50
  go_wp2
  go_ret2
  exact ⟨rfl, rfl⟩

/-- The first n bytes of a row. -/
theorem Bs.front {A : Nat → Prop} {w : World} {b off cap n : Nat} {l : List Int} (hl : Byt l) (hb : l.length ≤ 140737488355328) (hc : l.length ≤ cap) (hA : A b) (hlt : b < w.heap.size) (hcell : ∀ i, i < l.length → w.cell? ⟨b, off + i, none⟩ = some (.int .u8 (l.getD i 0)))
    (hn : n ≤ l.length) : Bs A w (.slice (some ⟨b, off, none⟩) n cap) (l.take n) := by
  have hlen : (l.take n).length = n := by rw [List.length_take]; omega
  refine ⟨hl.take n, by omega, Or.inr ⟨b, off, cap, by rw [hlen], by omega, hA, hlt, fun i hi => ?_⟩⟩
  rw [hlen] at hi
  rw [hcell i (by omega)]
  simp [hi]

theorem Rd.keep {w w' : World} {rb : Nat} {l : List Int} {e : Int} (h : Rd RB w rb l e) (k : Below w.heap.size w w') : Rd RB w' rb l e := by
  obtain ⟨h0, h1, ⟨v, h2, h3⟩, h4, h5, h6⟩ := h
  refine ⟨Nat.lt_of_lt_of_le h0 k.size, (k.cell (p := ⟨rb, 0, none⟩) h0).trans h1, ⟨v, (k.cell (p := ⟨rb, 1, none⟩) h0).trans h2, h3.keep (kpB k (fun _ => False)) (fun _ _ _ h => h)⟩, (k.cell (p := ⟨rb, 2, none⟩) h0).trans h4, (k.frozen (p := ⟨rb, 1, none⟩) h0).trans h5, (k.frozen (p := ⟨rb, 2, none⟩) h0).trans h6⟩

theorem Fr.keep {w w' : World} {v : Value} {n : Nat} {S : Nat → Prop} (h : Fr w v n) {A : Nat → Prop} {l : List Int} (hb : Bs A w v l) (k : Kp S w w') (hs : ∀ b, b < w.heap.size → A b → ¬ S b) : Fr w' v n := by
  intro b off len cap hv i hi
  obtain ⟨_, _, h3⟩ := hb
  rcases h3 with ⟨hv', _⟩ | ⟨b', off', cap', hv', _, ha, hlt, _⟩
  · rw [hv'] at hv; cases hv
  · rw [hv'] at hv
    simp only [Value.slice.injEq, Option.some.injEq, Addr.mk.injEq] at hv
    obtain ⟨⟨rfl, rfl, _⟩, _, _⟩ := hv
    rw [k.frozen (p := ⟨b', off' + i, none⟩) hlt (hs b' hlt ha)]
    exact h b' off' _ _ hv' i hi

/-- How 'raw' ends where the bytes are there. -/
def RawSome (w : World) (rb b off cap n k : Nat) (l : List Int) (e : Ending) (w' : World) : Prop :=
  ∃ a c w1 a', e = .returned (.tuple #[.slice a n c, .int .i64 0]) ∧ w' = w1.setCell ⟨rb, 1, none⟩ (.slice a' (k - n) (cap - n)) ∧
      (n < k → a' = some ⟨b, off + n, none⟩) ∧ (a' = some ⟨b, off, none⟩ ∨ a' = some ⟨b, off + n, none⟩) ∧
      Bs (fun b => w.heap.size ≤ b) w1 (.slice a n c) l ∧ Fr w1 (.slice a n c) n ∧ Below w.heap.size w w1

set_option maxHeartbeats 1000000 in
theorem raw_some {w : World} {rb b off cap n k : Nat} (hc : k ≤ cap) (hn : n ≤ k) (hrb : rb < w.heap.size)
    (hc1 : w.cell? ⟨rb, 1, none⟩ = some (.slice (some ⟨b, off, none⟩) k cap)) (hf1 : w.frozen? ⟨rb, 1, none⟩ = false) {l : List Int}
    (h : Bs (fun _ => True) w (.slice (some ⟨b, off, none⟩) n cap) l) (hlen : l.length = n) :
    Calls Try.prog 50 #[.pointer (some ⟨rb, 0, none⟩), .int .i64 n] w fun e w' => RawSome w rb b off cap n k l e w' := by
  have H : Hid (Bs (fun _ => True) w (.slice (some ⟨b, off, none⟩) n cap) l) := h
  clear h
  have HL : Hid (l.length = n) := hlen
  clear hlen
  have hn' : (n : Int) ≤ (k : Int) := by omega
  have hc' : (k : Int) ≤ (cap : Int) := by omega
  go_enter Try.func50, Try.ntmps50
  go_wp2_with fail
  refine (clone_any H.out).mono ?_
  rintro e w1 ⟨a, c, rfl, hb1, hf, hk⟩
  rw [HL.out] at hb1 hf ⊢
  have HB := hd hb1
  have HF := hd hf
  have HW := hd hk
  have hd1 : w1.cell? ⟨rb, 1, none⟩ = some (.slice (some ⟨b, off, none⟩) k cap) := (hk.cell (p := ⟨rb, 1, none⟩) hrb).trans hc1
  have hd2 : w1.frozen? ⟨rb, 1, none⟩ = false := (hk.frozen (p := ⟨rb, 1, none⟩) hrb).trans hf1
  clear hb1 hf hk
  go_wp2
  all_goals go_ret2
  · exact ⟨a, c, w1, _, rfl, by rw [Nat.sub_self], fun h => by omega, Or.inl rfl, HB.out, HF.out, HW.out⟩
  · exact ⟨a, c, w1, _, rfl, rfl, fun h => rfl, Or.inr rfl, HB.out, HF.out, HW.out⟩

set_option maxHeartbeats 1000000 in
theorem raw_nil {w : World} {rb : Nat} (hc1 : w.cell? ⟨rb, 1, none⟩ = some (.slice none 0 0)) (hf1 : w.frozen? ⟨rb, 1, none⟩ = false) :
    Calls Try.prog 50 #[.pointer (some ⟨rb, 0, none⟩), .int .i64 0] w fun e w' => e = .returned (.tuple #[.slice none 0 0, .int .i64 0]) ∧ w' = w.setCell ⟨rb, 1, none⟩ (.slice none 0 0) := by
  go_enter Try.func50, Try.ntmps50
  go_wp2_with (go_at_call 43; refine (clone_nil _).mono ?_; rintro e w' ⟨rfl, rfl⟩)
  go_ret2
  exact ⟨rfl, rfl⟩

theorem raw_any {w : World} {rb : Nat} {l : List Int} (h : Rd RB w rb l 0) (n : Int) :
    Calls Try.prog 50 #[.pointer (some ⟨rb, 0, none⟩), .int .i64 n] w fun e w' => RawEnd RB w rb l n e w' := by
  by_cases h0 : n < 0
  · exact (raw_neg n h0).mono fun e w' he => Or.inl ⟨h0, he⟩
  · obtain ⟨v, hv, hbs⟩ := h.left
    by_cases hs : (l.length : Int) < n
    · obtain ⟨a, cap, rfl⟩ := hbs.len
      exact (raw_short n (by omega) hs hv).mono fun e w' he => Or.inr (Or.inl ⟨by omega, hs, he⟩)
    · obtain ⟨m, rfl⟩ := Int.eq_ofNat_of_zero_le (by omega : 0 ≤ n)
      have hm : m ≤ l.length := by omega
      have hlen : (l.take m).length = m := by rw [List.length_take]; omega
      have hbs' := hbs
      obtain ⟨h1, h2, h3⟩ := hbs
      rcases h3 with ⟨rfl, rfl⟩ | ⟨b, off, cap, rfl, hc, hA, hlt, hcell⟩
      · have hm0 : m = 0 := by simpa using hm
        subst hm0
        refine (raw_nil hv h.free1).mono ?_
        rintro e w' ⟨rfl, rfl⟩
        refine Or.inr (Or.inr ⟨by omega, by simp, none, 0, rfl, ⟨Byt.nil, by simp, Or.inl ⟨rfl, rfl⟩⟩, Fr.ofNil _ _ _ _, ?_, ?_⟩)
        · exact h.put ⟨Byt.nil, by simp, Or.inl ⟨rfl, rfl⟩⟩
        · exact (Kp.refl (fun b => b = rb) w).setCell ⟨rb, 1, none⟩ _ (fun _ => rfl)
      · refine (raw_some hc hm h.lt hv h.free1 (Bs.front h1 h2 hc trivial hlt hcell hm) hlen).mono ?_
        rintro e w' ⟨a, c, w1, a', rfl, rfl, ha, ha', hb1, hf, hk⟩
        have hkp := (Kp.refl (fun b => b = rb) w1).setCell ⟨rb, 1, none⟩ (.slice a' (l.length - m) (cap - m)) (fun _ => rfl)
        have hne : ∀ b, b < w1.heap.size → w.heap.size ≤ b → ¬ b = rb := fun b _ hb e => by have := h.lt; omega
        refine Or.inr (Or.inr ⟨by omega, by omega, a, c, ?_, ?_, ?_, ?_, ?_⟩)
        · rw [Int.toNat_natCast, hlen]
        · rw [Int.toNat_natCast, hlen]; exact hb1.keep hkp hne
        · rw [Int.toNat_natCast, hlen]; exact hf.keep hb1 hkp hne
        · rw [Int.toNat_natCast]
          refine (h.keep hk).put ?_
          exact Bs.rest (A := fun b => RB ≤ b ∧ b < rb) (w := w1) (b := b) (off := off) (k := m) h1 h2 hc hA (Nat.lt_of_lt_of_le hlt hk.size) (fun i hi => (hk.cell (p := ⟨b, off + i, none⟩) hlt).trans (hcell i hi)) hm ha ha'
        · exact (kpB hk (fun b => b = rb)).trans hkp
end Go.Proofs.Ytdjpdllgifdhaaa
