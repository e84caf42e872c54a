/- Plain mathematics: numbers' bytes stand as the numbers do, and none is the beginning of another one's. -/
import Derived.Test.YtdjpdllgifdhaaaRt
namespace Go.Proofs.Ytdjpdllgifdhaaa.Num
set_option linter.unusedVariables false

/-- Which of two rows stands ahead. -/
def cmpI : List Int → List Int → Int
  | [], [] => 0
  | [], _ :: _ => -1
  | _ :: _, [] => 1
  | a :: as, b :: bs => if a < b then -1 else if b < a then 1 else cmpI as bs

/-- The number that a row tells to the base 256. -/
def val : List Int → Int
  | [] => 0
  | x :: l => x * 256 ^ l.length + val l

theorem pow_pos' (n : Nat) : (0 : Int) < 256 ^ n := Int.pow_pos (by decide)

theorem val_bd : ∀ (l : List Int), (∀ x ∈ l, 0 ≤ x ∧ x ≤ 255) → 0 ≤ val l ∧ val l < 256 ^ l.length
  | [], _ => by simp [val]
  | x :: l, h => by
    have ih := val_bd l (fun y hy => h y (List.mem_cons_of_mem _ hy))
    have hx := h x (List.mem_cons_self ..)
    have hp := pow_pos' l.length
    have h1 : 0 ≤ x * 256 ^ l.length := Int.mul_nonneg hx.1 (by omega)
    have h2 : x * 256 ^ l.length ≤ 255 * 256 ^ l.length := Int.mul_le_mul_of_nonneg_right hx.2 (by omega)
    have h3 : (256 : Int) ^ (l.length + 1) = 256 ^ l.length * 256 := Int.pow_succ ..
    simp only [val, List.length_cons]
    rw [h3]
    constructor <;> omega

theorem cmp_val : ∀ (l m : List Int), (∀ x ∈ l, 0 ≤ x ∧ x ≤ 255) → (∀ x ∈ m, 0 ≤ x ∧ x ≤ 255) → l.length = m.length →
    (val l < val m → cmpI l m = -1) ∧ (val l = val m → cmpI l m = 0) ∧ (val m < val l → cmpI l m = 1)
  | [], [], _, _, _ => by simp [val, cmpI]
  | [], _ :: _, _, _, h => by simp at h
  | _ :: _, [], _, _, h => by simp at h
  | x :: l, y :: m, hl, hm, h => by
    have hlen : l.length = m.length := by simpa using h
    have hl' := fun z hz => hl z (List.mem_cons_of_mem x hz)
    have hm' := fun z hz => hm z (List.mem_cons_of_mem y hz)
    have ih := cmp_val l m hl' hm' hlen
    have bl := val_bd l hl'
    have bm := val_bd m hm'
    have hp := pow_pos' m.length
    simp only [val, cmpI, hlen]
    rw [hlen] at bl
    by_cases h1 : x < y
    · have h2 : (x + 1) * 256 ^ m.length ≤ y * 256 ^ m.length := Int.mul_le_mul_of_nonneg_right (by omega) (by omega)
      rw [Int.add_mul, Int.one_mul] at h2
      rw [if_pos h1]
      refine ⟨fun _ => rfl, fun h => ?_, fun h => ?_⟩ <;> omega
    · rw [if_neg h1]
      by_cases h3 : y < x
      · have h2 : (y + 1) * 256 ^ m.length ≤ x * 256 ^ m.length := Int.mul_le_mul_of_nonneg_right (by omega) (by omega)
        rw [Int.add_mul, Int.one_mul] at h2
        rw [if_pos h3]
        refine ⟨fun h => ?_, fun h => ?_, fun _ => rfl⟩ <;> omega
      · rw [if_neg h3]
        have h4 : x = y := by omega
        subst h4
        refine ⟨fun h => ih.1 ?_, fun h => ih.2.1 ?_, fun h => ih.2.2 ?_⟩ <;> omega

theorem enc_bytes (n : Int) (h0 : 0 ≤ n) (h1 : n < 72057594037927936) : ∀ x ∈ enc n, 0 ≤ x ∧ x ≤ 255 := by
  unfold enc
  repeat' split
  all_goals
    intro x hx
    simp only [List.mem_cons, List.not_mem_nil, or_false] at hx
    omega

theorem val_enc1 (n : Int) (h0 : 0 ≤ n) (h1 : n < 128) : val (enc n) = 0 + n := by
  rw [enc1 n h1]
  simp only [val, List.length_nil, Int.reducePow]
  omega

theorem val_enc2 (n : Int) (h0 : 128 ≤ n) (h1 : n < 16384) : val (enc n) = 32768 + n := by
  rw [enc2 n h0 h1]
  simp only [val, List.length_cons, List.length_nil, Nat.reduceAdd, Int.reducePow]
  omega

theorem val_enc3 (n : Int) (h0 : 16384 ≤ n) (h1 : n < 2097152) : val (enc n) = 12582912 + n := by
  rw [enc3 n h0 h1]
  simp only [val, List.length_cons, List.length_nil, Nat.reduceAdd, Int.reducePow]
  omega

theorem val_enc4 (n : Int) (h0 : 2097152 ≤ n) (h1 : n < 268435456) : val (enc n) = 3758096384 + n := by
  rw [enc4 n h0 h1]
  simp only [val, List.length_cons, List.length_nil, Nat.reduceAdd, Int.reducePow]
  omega

theorem val_enc5 (n : Int) (h0 : 268435456 ≤ n) (h1 : n < 34359738368) : val (enc n) = 1030792151040 + n := by
  rw [enc5 n h0 h1]
  simp only [val, List.length_cons, List.length_nil, Nat.reduceAdd, Int.reducePow]
  omega

theorem val_enc6 (n : Int) (h0 : 34359738368 ≤ n) (h1 : n < 4398046511104) : val (enc n) = 272678883688448 + n := by
  rw [enc6 n h0 h1]
  simp only [val, List.length_cons, List.length_nil, Nat.reduceAdd, Int.reducePow]
  omega

theorem val_enc7 (n : Int) (h0 : 4398046511104 ≤ n) (h1 : n < 562949953421312) : val (enc n) = 70931694131085312 + n := by
  rw [enc7 n h0 h1]
  simp only [val, List.length_cons, List.length_nil, Nat.reduceAdd, Int.reducePow]
  omega

theorem val_enc8 (n : Int) (h0 : 562949953421312 ≤ n) (h1 : n < 72057594037927936) : val (enc n) = 18302628885633695744 + n := by
  rw [enc8 n h0]
  simp only [val, List.length_cons, List.length_nil, Nat.reduceAdd, Int.reducePow]
  omega

/-- The sizes' first bytes. -/
theorem first_bd (n : Int) (h0 : 0 ≤ n) (h1 : n < 72057594037927936) : ∃ x l, enc n = x :: l ∧
    ((sz n = 1 ∧ 0 ≤ x ∧ x < 128) ∨ (sz n = 2 ∧ 128 ≤ x ∧ x < 192) ∨ (sz n = 3 ∧ 192 ≤ x ∧ x < 224) ∨ (sz n = 4 ∧ 224 ≤ x ∧ x < 240) ∨ (sz n = 5 ∧ 240 ≤ x ∧ x < 248) ∨ (sz n = 6 ∧ 248 ≤ x ∧ x < 252) ∨ (sz n = 7 ∧ 252 ≤ x ∧ x < 254) ∨ (sz n = 8 ∧ 254 ≤ x ∧ x < 255)) := by
  rcases sz_cases n h0 with h | h | h | h | h | h | h | h
  · exact ⟨_, _, enc1 n h.2, by omega⟩
  · exact ⟨_, _, enc2 n h.2.1 h.2.2, by omega⟩
  · exact ⟨_, _, enc3 n h.2.1 h.2.2, by omega⟩
  · exact ⟨_, _, enc4 n h.2.1 h.2.2, by omega⟩
  · exact ⟨_, _, enc5 n h.2.1 h.2.2, by omega⟩
  · exact ⟨_, _, enc6 n h.2.1 h.2.2, by omega⟩
  · exact ⟨_, _, enc7 n h.2.1 h.2.2, by omega⟩
  · exact ⟨_, _, enc8 n h.2, by omega⟩

theorem cmp_enc (a b : Int) (a0 : 0 ≤ a) (a1 : a < 72057594037927936) (b0 : 0 ≤ b) (b1 : b < 72057594037927936) :
    (a < b → cmpI (enc a) (enc b) = -1) ∧ (a = b → cmpI (enc a) (enc b) = 0) ∧ (b < a → cmpI (enc a) (enc b) = 1) := by
  by_cases hs : sz a = sz b
  · have hc := cmp_val (enc a) (enc b) (enc_bytes a a0 a1) (enc_bytes b b0 b1) (by rw [enc_length, enc_length, hs])
    have hv : ∃ c : Int, val (enc a) = c + a ∧ val (enc b) = c + b := by
      rcases sz_cases a a0 with h | h | h | h | h | h | h | h
      · have g := sz_cases b b0; exact ⟨_, val_enc1 a a0 h.2, val_enc1 b (by omega) (by omega)⟩
      · have g := sz_cases b b0; exact ⟨_, val_enc2 a h.2.1 h.2.2, val_enc2 b (by omega) (by omega)⟩
      · have g := sz_cases b b0; exact ⟨_, val_enc3 a h.2.1 h.2.2, val_enc3 b (by omega) (by omega)⟩
      · have g := sz_cases b b0; exact ⟨_, val_enc4 a h.2.1 h.2.2, val_enc4 b (by omega) (by omega)⟩
      · have g := sz_cases b b0; exact ⟨_, val_enc5 a h.2.1 h.2.2, val_enc5 b (by omega) (by omega)⟩
      · have g := sz_cases b b0; exact ⟨_, val_enc6 a h.2.1 h.2.2, val_enc6 b (by omega) (by omega)⟩
      · have g := sz_cases b b0; exact ⟨_, val_enc7 a h.2.1 h.2.2, val_enc7 b (by omega) (by omega)⟩
      · have g := sz_cases b b0; exact ⟨_, val_enc8 a h.2 a1, val_enc8 b (by omega) (by omega)⟩
    obtain ⟨c, e1, e2⟩ := hv
    rw [e1, e2] at hc
    exact ⟨fun h => hc.1 (by omega), fun h => hc.2.1 (by omega), fun h => hc.2.2 (by omega)⟩
  · obtain ⟨x, l, ea, ha⟩ := first_bd a a0 a1
    obtain ⟨y, m, eb, hb⟩ := first_bd b b0 b1
    have ca := sz_cases a a0
    have cb := sz_cases b b0
    rw [ea, eb]
    unfold cmpI
    refine ⟨fun h => ?_, fun h => absurd (congrArg sz h) hs, fun h => ?_⟩
    · rw [if_pos (by omega)]
    · rw [if_neg (by omega), if_pos (by omega)]

theorem enc_prefix (a b : Int) (r : List Int) (a0 : 0 ≤ a) (a1 : a < 72057594037927936) (b0 : 0 ≤ b) (b1 : b < 72057594037927936) (h : enc a = enc b ++ r) : a = b := by
  have h1 := num_enc 72057594037927936 a [] a0 a1 (by omega)
  rw [List.append_nil, h, num_enc 72057594037927936 b r b0 b1 (by omega)] at h1
  simp only [Prod.mk.injEq] at h1
  exact h1.1.symm

end Go.Proofs.Ytdjpdllgifdhaaa.Num
