/- A number is told by its bytes; what is kept of readers and rows. -/
import Derived.Test.YteifaipbckhoiabMa
import Derived.Test.YteifaipbckhoiabMc
namespace Go.Proofs.Yteifaipbckhoiab
open Go.RowKit
set_option linter.unusedVariables false

section
namespace Num
theorem num_of (most n : Int) (l : List Int) (k : Nat) (hk : told (l.getD 0 0) = k) (h8 : k ≤ 8) (hl : k ≤ l.length) (hl0 : 0 < l.length) (hv : V l k (k - 1) = n) (hs : sz n = k) (hm : n ≤ most) : num most l = (n, 0, k) := by
  unfold num
  rw [if_neg (by omega), hk, if_neg (by omega), if_neg (by omega), hv, if_neg (by rintro (h | h); exact h hs; omega)]

theorem num_enc1 (most n : Int) (r : List Int) (h0 : 0 ≤ n) (h1 : n < 128) (hm : n ≤ most) : num most (enc n ++ r) = (n, 0, 1) := by
  rw [enc1 n h1]
  have g0 : ([n] ++ r).getD 0 0 = n := rfl
  refine num_of most n _ 1 ?_ (by omega) (by simp) (by simp) ?_ ?_ hm
  · rw [g0]; unfold told; repeat' split
    all_goals omega
  · simp only [V, Nat.reduceSub, g0]
    unfold head
    simp only [Nat.reduceEqDiff, if_true, if_false]
    omega
  · have := sz_cases n (by omega); omega

theorem num_enc2 (most n : Int) (r : List Int) (h0 : 128 ≤ n) (h1 : n < 16384) (hm : n ≤ most) : num most (enc n ++ r) = (n, 0, 2) := by
  rw [enc2 n h0 h1]
  have g0 : ([128 + n / 256, n % 256] ++ r).getD 0 0 = 128 + n / 256 := rfl
  have g1 : ([128 + n / 256, n % 256] ++ r).getD 1 0 = n % 256 := rfl
  refine num_of most n _ 2 ?_ (by omega) (by simp) (by simp) ?_ ?_ hm
  · rw [g0]; unfold told; repeat' split
    all_goals omega
  · simp only [V, Nat.reduceSub, Nat.zero_add, g0, g1]
    unfold head
    simp only [Nat.reduceEqDiff, if_true, if_false]
    omega
  · have := sz_cases n (by omega); omega

theorem num_enc3 (most n : Int) (r : List Int) (h0 : 16384 ≤ n) (h1 : n < 2097152) (hm : n ≤ most) : num most (enc n ++ r) = (n, 0, 3) := by
  rw [enc3 n h0 h1]
  have g0 : ([192 + n / 65536, n / 256 % 256, n % 256] ++ r).getD 0 0 = 192 + n / 65536 := rfl
  have g1 : ([192 + n / 65536, n / 256 % 256, n % 256] ++ r).getD 1 0 = n / 256 % 256 := rfl
  have g2 : ([192 + n / 65536, n / 256 % 256, n % 256] ++ r).getD 2 0 = n % 256 := rfl
  refine num_of most n _ 3 ?_ (by omega) (by simp) (by simp) ?_ ?_ hm
  · rw [g0]; unfold told; repeat' split
    all_goals omega
  · simp only [V, Nat.reduceSub, Nat.reduceAdd, Nat.zero_add, g0, g1, g2]
    unfold head
    simp only [Nat.reduceEqDiff, if_true, if_false]
    omega
  · have := sz_cases n (by omega); omega

theorem num_enc4 (most n : Int) (r : List Int) (h0 : 2097152 ≤ n) (h1 : n < 268435456) (hm : n ≤ most) : num most (enc n ++ r) = (n, 0, 4) := by
  rw [enc4 n h0 h1]
  have g0 : ([224 + n / 16777216, n / 65536 % 256, n / 256 % 256, n % 256] ++ r).getD 0 0 = 224 + n / 16777216 := rfl
  have g1 : ([224 + n / 16777216, n / 65536 % 256, n / 256 % 256, n % 256] ++ r).getD 1 0 = n / 65536 % 256 := rfl
  have g2 : ([224 + n / 16777216, n / 65536 % 256, n / 256 % 256, n % 256] ++ r).getD 2 0 = n / 256 % 256 := rfl
  have g3 : ([224 + n / 16777216, n / 65536 % 256, n / 256 % 256, n % 256] ++ r).getD 3 0 = n % 256 := rfl
  refine num_of most n _ 4 ?_ (by omega) (by simp) (by simp) ?_ ?_ hm
  · rw [g0]; unfold told; repeat' split
    all_goals omega
  · simp only [V, Nat.reduceSub, Nat.reduceAdd, Nat.zero_add, g0, g1, g2, g3]
    unfold head
    simp only [Nat.reduceEqDiff, if_true, if_false]
    omega
  · have := sz_cases n (by omega); omega

theorem num_enc5 (most n : Int) (r : List Int) (h0 : 268435456 ≤ n) (h1 : n < 34359738368) (hm : n ≤ most) : num most (enc n ++ r) = (n, 0, 5) := by
  rw [enc5 n h0 h1]
  have g0 : ([240 + n / 4294967296, n / 16777216 % 256, n / 65536 % 256, n / 256 % 256, n % 256] ++ r).getD 0 0 = 240 + n / 4294967296 := rfl
  have g1 : ([240 + n / 4294967296, n / 16777216 % 256, n / 65536 % 256, n / 256 % 256, n % 256] ++ r).getD 1 0 = n / 16777216 % 256 := rfl
  have g2 : ([240 + n / 4294967296, n / 16777216 % 256, n / 65536 % 256, n / 256 % 256, n % 256] ++ r).getD 2 0 = n / 65536 % 256 := rfl
  have g3 : ([240 + n / 4294967296, n / 16777216 % 256, n / 65536 % 256, n / 256 % 256, n % 256] ++ r).getD 3 0 = n / 256 % 256 := rfl
  have g4 : ([240 + n / 4294967296, n / 16777216 % 256, n / 65536 % 256, n / 256 % 256, n % 256] ++ r).getD 4 0 = n % 256 := rfl
  refine num_of most n _ 5 ?_ (by omega) (by simp) (by simp) ?_ ?_ hm
  · rw [g0]; unfold told; repeat' split
    all_goals omega
  · simp only [V, Nat.reduceSub, Nat.reduceAdd, Nat.zero_add, g0, g1, g2, g3, g4]
    unfold head
    simp only [Nat.reduceEqDiff, if_true, if_false]
    omega
  · have := sz_cases n (by omega); omega

theorem num_enc6 (most n : Int) (r : List Int) (h0 : 34359738368 ≤ n) (h1 : n < 4398046511104) (hm : n ≤ most) : num most (enc n ++ r) = (n, 0, 6) := by
  rw [enc6 n h0 h1]
  have g0 : ([248 + n / 1099511627776, n / 4294967296 % 256, n / 16777216 % 256, n / 65536 % 256, n / 256 % 256, n % 256] ++ r).getD 0 0 = 248 + n / 1099511627776 := rfl
  have g1 : ([248 + n / 1099511627776, n / 4294967296 % 256, n / 16777216 % 256, n / 65536 % 256, n / 256 % 256, n % 256] ++ r).getD 1 0 = n / 4294967296 % 256 := rfl
  have g2 : ([248 + n / 1099511627776, n / 4294967296 % 256, n / 16777216 % 256, n / 65536 % 256, n / 256 % 256, n % 256] ++ r).getD 2 0 = n / 16777216 % 256 := rfl
  have g3 : ([248 + n / 1099511627776, n / 4294967296 % 256, n / 16777216 % 256, n / 65536 % 256, n / 256 % 256, n % 256] ++ r).getD 3 0 = n / 65536 % 256 := rfl
  have g4 : ([248 + n / 1099511627776, n / 4294967296 % 256, n / 16777216 % 256, n / 65536 % 256, n / 256 % 256, n % 256] ++ r).getD 4 0 = n / 256 % 256 := rfl
  have g5 : ([248 + n / 1099511627776, n / 4294967296 % 256, n / 16777216 % 256, n / 65536 % 256, n / 256 % 256, n % 256] ++ r).getD 5 0 = n % 256 := rfl
  refine num_of most n _ 6 ?_ (by omega) (by simp) (by simp) ?_ ?_ hm
  · rw [g0]; unfold told; repeat' split
    all_goals omega
  · simp only [V, Nat.reduceSub, Nat.reduceAdd, Nat.zero_add, g0, g1, g2, g3, g4, g5]
    unfold head
    simp only [Nat.reduceEqDiff, if_true, if_false]
    omega
  · have := sz_cases n (by omega); omega

theorem num_enc7 (most n : Int) (r : List Int) (h0 : 4398046511104 ≤ n) (h1 : n < 562949953421312) (hm : n ≤ most) : num most (enc n ++ r) = (n, 0, 7) := by
  rw [enc7 n h0 h1]
  have g0 : ([252 + n / 281474976710656, n / 1099511627776 % 256, n / 4294967296 % 256, n / 16777216 % 256, n / 65536 % 256, n / 256 % 256, n % 256] ++ r).getD 0 0 = 252 + n / 281474976710656 := rfl
  have g1 : ([252 + n / 281474976710656, n / 1099511627776 % 256, n / 4294967296 % 256, n / 16777216 % 256, n / 65536 % 256, n / 256 % 256, n % 256] ++ r).getD 1 0 = n / 1099511627776 % 256 := rfl
  have g2 : ([252 + n / 281474976710656, n / 1099511627776 % 256, n / 4294967296 % 256, n / 16777216 % 256, n / 65536 % 256, n / 256 % 256, n % 256] ++ r).getD 2 0 = n / 4294967296 % 256 := rfl
  have g3 : ([252 + n / 281474976710656, n / 1099511627776 % 256, n / 4294967296 % 256, n / 16777216 % 256, n / 65536 % 256, n / 256 % 256, n % 256] ++ r).getD 3 0 = n / 16777216 % 256 := rfl
  have g4 : ([252 + n / 281474976710656, n / 1099511627776 % 256, n / 4294967296 % 256, n / 16777216 % 256, n / 65536 % 256, n / 256 % 256, n % 256] ++ r).getD 4 0 = n / 65536 % 256 := rfl
  have g5 : ([252 + n / 281474976710656, n / 1099511627776 % 256, n / 4294967296 % 256, n / 16777216 % 256, n / 65536 % 256, n / 256 % 256, n % 256] ++ r).getD 5 0 = n / 256 % 256 := rfl
  have g6 : ([252 + n / 281474976710656, n / 1099511627776 % 256, n / 4294967296 % 256, n / 16777216 % 256, n / 65536 % 256, n / 256 % 256, n % 256] ++ r).getD 6 0 = n % 256 := rfl
  refine num_of most n _ 7 ?_ (by omega) (by simp) (by simp) ?_ ?_ hm
  · rw [g0]; unfold told; repeat' split
    all_goals omega
  · simp only [V, Nat.reduceSub, Nat.reduceAdd, Nat.zero_add, g0, g1, g2, g3, g4, g5, g6]
    unfold head
    simp only [Nat.reduceEqDiff, if_true, if_false]
    omega
  · have := sz_cases n (by omega); omega

theorem num_enc8 (most n : Int) (r : List Int) (h0 : 562949953421312 ≤ n) (h1 : n < 72057594037927936) (hm : n ≤ most) : num most (enc n ++ r) = (n, 0, 8) := by
  rw [enc8 n h0]
  have g0 : ([254, n / 281474976710656, n / 1099511627776 % 256, n / 4294967296 % 256, n / 16777216 % 256, n / 65536 % 256, n / 256 % 256, n % 256] ++ r).getD 0 0 = 254 := rfl
  have g1 : ([254, n / 281474976710656, n / 1099511627776 % 256, n / 4294967296 % 256, n / 16777216 % 256, n / 65536 % 256, n / 256 % 256, n % 256] ++ r).getD 1 0 = n / 281474976710656 := rfl
  have g2 : ([254, n / 281474976710656, n / 1099511627776 % 256, n / 4294967296 % 256, n / 16777216 % 256, n / 65536 % 256, n / 256 % 256, n % 256] ++ r).getD 2 0 = n / 1099511627776 % 256 := rfl
  have g3 : ([254, n / 281474976710656, n / 1099511627776 % 256, n / 4294967296 % 256, n / 16777216 % 256, n / 65536 % 256, n / 256 % 256, n % 256] ++ r).getD 3 0 = n / 4294967296 % 256 := rfl
  have g4 : ([254, n / 281474976710656, n / 1099511627776 % 256, n / 4294967296 % 256, n / 16777216 % 256, n / 65536 % 256, n / 256 % 256, n % 256] ++ r).getD 4 0 = n / 16777216 % 256 := rfl
  have g5 : ([254, n / 281474976710656, n / 1099511627776 % 256, n / 4294967296 % 256, n / 16777216 % 256, n / 65536 % 256, n / 256 % 256, n % 256] ++ r).getD 5 0 = n / 65536 % 256 := rfl
  have g6 : ([254, n / 281474976710656, n / 1099511627776 % 256, n / 4294967296 % 256, n / 16777216 % 256, n / 65536 % 256, n / 256 % 256, n % 256] ++ r).getD 6 0 = n / 256 % 256 := rfl
  have g7 : ([254, n / 281474976710656, n / 1099511627776 % 256, n / 4294967296 % 256, n / 16777216 % 256, n / 65536 % 256, n / 256 % 256, n % 256] ++ r).getD 7 0 = n % 256 := rfl
  refine num_of most n _ 8 ?_ (by omega) (by simp) (by simp) ?_ ?_ hm
  · rw [g0]; unfold told; repeat' split
    all_goals omega
  · simp only [V, Nat.reduceSub, Nat.reduceAdd, Nat.zero_add, g0, g1, g2, g3, g4, g5, g6, g7]
    unfold head
    simp only [Nat.reduceEqDiff, if_false]
    omega
  · have := sz_cases n (by omega); omega

theorem num_enc (most n : Int) (r : List Int) (h0 : 0 ≤ n) (h1 : n < 72057594037927936) (hm : n ≤ most) : num most (enc n ++ r) = (n, 0, sz n) := by
  rcases sz_cases n h0 with h | h | h | h | h | h | h | h
  · rw [h.1]; exact num_enc1 most n r h0 h.2 hm
  · rw [h.1]; exact num_enc2 most n r h.2.1 h.2.2 hm
  · rw [h.1]; exact num_enc3 most n r h.2.1 h.2.2 hm
  · rw [h.1]; exact num_enc4 most n r h.2.1 h.2.2 hm
  · rw [h.1]; exact num_enc5 most n r h.2.1 h.2.2 hm
  · rw [h.1]; exact num_enc6 most n r h.2.1 h.2.2 hm
  · rw [h.1]; exact num_enc7 most n r h.2.1 h.2.2 hm
  · rw [h.1]; exact num_enc8 most n r h.2 h1 hm
end Num
end

section
variable {RB : Nat}

theorem uStep_ok (most n : Int) (r : List Int) (h0 : 0 ≤ n) (h1 : n < 72057594037927936) (hm : n ≤ most) : uStep most (Num.enc n ++ r) 0 = (n, r, 0) := by
  unfold uStep
  rw [if_neg (by omega), Num.num_enc most n r h0 h1 hm, if_neg (by simp)]
  simp only [← Num.enc_length, List.drop_left]

theorem uStep_all (most n : Int) (h0 : 0 ≤ n) (h1 : n < 72057594037927936) (hm : n ≤ most) : uStep most (Num.enc n) 0 = (n, [], 0) := by
  have h := uStep_ok most n [] h0 h1 hm
  rwa [List.append_nil] at h

/-- A new row that is built of bytes. -/
theorem built (w : World) (l : List Int) (cs : Array Value) (hcs : cs = u8s l) (n : Nat) (hn : l.length = n) (hl : Byt l) (hb : l.length ≤ 140737488355328) :
    Bs (fun b => w.heap.size ≤ b) (w.alloc (.cells cs 5)) (.slice (some ⟨w.heap.size, 0, none⟩) n n) l := by
  subst hcs; subst hn
  exact Bs.fresh0 w l 5 _ hl hb (Nat.le_refl _) _ (Nat.le_refl _)

theorem RText_is {w : World} {rb : Nat} {l l' bs : List Int} {e0 e1 : Int} (h : Rd RB w rb l e0) (n : Int) (hs : bStep (textR n l) l e0 = (bs, l', e1)) (s : ByteArray) (he : strOfNums bs = s) :
    Calls Try.prog 57 #[.pointer (some ⟨rb, 0, none⟩), .int .i64 n] w fun e w' => e = .returned (.string s) ∧ Rd RB w' rb l' e1 ∧ Kp (fun b => b = rb) w w' := by
  refine (RText_any h n).mono ?_
  intro e w' ht
  rw [hs] at ht
  unfold TextEnd at ht
  rw [he] at ht
  exact ht

theorem Text_ab (w : World) : Calls Try.prog 36 #[.string ⟨#[97, 98]⟩] w fun e w' => ∃ a cap, e = .returned (.tuple #[.slice a 3 cap, .int .i64 0]) ∧ Bs (fun b => w.heap.size ≤ b) w' (.slice a 3 cap) [2, 97, 98] ∧ Below w.heap.size w w' :=
  Text_ok ⟨#[97, 98]⟩ w (by decide)

theorem eq_built {A : Nat → Prop} (w : World) (l : List Int) (cs : Array Value) (k : Nat) (v : Value) (hcs : cs = u8s l) (hk : l.length = k) (h : Bs A w v l) :
    Calls Try.prog 8 #[v, .slice (some ⟨w.heap.size, 0, none⟩) k k] (w.alloc (.cells cs 5)) fun e w' => e = .returned (.bool true) ∧ Below w.heap.size w w' := by
  refine (eq_same (h.keepB ((Below.refl _ _).alloc (Nat.le_refl _) _)) (built w l cs hcs k hk h.1 h.2.1)).mono ?_
  rintro e w' ⟨rfl, m, rfl⟩
  exact ⟨rfl, below_drewN ((Below.refl _ _).alloc (Nat.le_refl _) _) m⟩

theorem byt_dec (l : List Int) (h : (l.all fun x => decide (0 ≤ x) && decide (x ≤ 255)) = true) : Byt l := by
  intro x hx
  have := List.all_eq_true.1 h x hx
  simpa using this
end

section
variable {RB : Nat}

theorem Rd.keepO {w w' : World} {rb rb' : Nat} {l : List Int} {e : Int} (h : Rd RB w rb l e) (k : Kp (fun b => b = rb') w w') (hd : rb' < RB ∨ rb < rb') (hle : RB ≤ rb) : Rd RB w' rb l e := by
  obtain ⟨h0, h1, ⟨v, h2, h3⟩, h4, h5, h6⟩ := h
  have hn : ¬ rb = rb' := by omega
  refine ⟨Nat.lt_of_lt_of_le h0 k.size, (k.cell (p := ⟨rb, 0, none⟩) h0 hn).trans h1, ⟨v, (k.cell (p := ⟨rb, 1, none⟩) h0 hn).trans h2, h3.keep k (fun b _ hb hb' => ?_)⟩, (k.cell (p := ⟨rb, 2, none⟩) h0 hn).trans h4, (k.frozen (p := ⟨rb, 1, none⟩) h0 hn).trans h5, (k.frozen (p := ⟨rb, 2, none⟩) h0 hn).trans h6⟩
  have : b = rb' := hb'
  omega

theorem Bs.keepO {A : Nat → Prop} {w w' : World} {rb : Nat} {v : Value} {l : List Int} (h : Bs A w v l) (k : Kp (fun b => b = rb) w w') (hd : ∀ b, A b → b ≠ rb) : Bs A w' v l :=
  h.keep k (fun b _ hb hb' => hd b hb hb')
end

section
namespace Num

theorem list_split : ∀ (k : Nat) (l : List Int), k ≤ l.length → ∃ h r, l = h ++ r ∧ h.length = k
  | k, l, h => ⟨l.take k, l.drop k, (List.take_append_drop k l).symm, by rw [List.length_take]; omega⟩

theorem again1 (x n : Int) (r : List Int) (hx : 0 ≤ x ∧ x ≤ 255) (ht : told x = 1) (hv : V ([x] ++ r) 1 0 = n) (hs : sz n = 1) : enc n = [x] := by
  have hr : x < 128 := by
    unfold told at ht
    repeat' split at ht
    all_goals omega
  have g0 : ([x] ++ r).getD 0 0 = x := rfl
  simp only [V, g0] at hv
  unfold head at hv
  simp only [Nat.reduceEqDiff, if_true, if_false] at hv
  have hc := sz_cases n (by omega)
  rw [enc1 n (by omega)]
  simp only [List.cons.injEq, and_true]
  omega

theorem again2 (x y1 n : Int) (r : List Int) (hx : 0 ≤ x ∧ x ≤ 255) (hy1 : 0 ≤ y1 ∧ y1 ≤ 255) (ht : told x = 2) (hv : V ([x, y1] ++ r) 2 1 = n) (hs : sz n = 2) : enc n = [x, y1] := by
  have hr : 128 ≤ x ∧ x < 192 := by
    unfold told at ht
    repeat' split at ht
    all_goals omega
  have g0 : ([x, y1] ++ r).getD 0 0 = x := rfl
  have g1 : ([x, y1] ++ r).getD 1 0 = y1 := rfl
  simp only [V, Nat.zero_add, g0, g1] at hv
  unfold head at hv
  simp only [Nat.reduceEqDiff, if_true, if_false] at hv
  have hc := sz_cases n (by omega)
  rw [enc2 n (by omega) (by omega)]
  simp only [List.cons.injEq, and_true]
  omega

theorem again3 (x y1 y2 n : Int) (r : List Int) (hx : 0 ≤ x ∧ x ≤ 255) (hy1 : 0 ≤ y1 ∧ y1 ≤ 255) (hy2 : 0 ≤ y2 ∧ y2 ≤ 255) (ht : told x = 3) (hv : V ([x, y1, y2] ++ r) 3 2 = n) (hs : sz n = 3) : enc n = [x, y1, y2] := by
  have hr : 192 ≤ x ∧ x < 224 := by
    unfold told at ht
    repeat' split at ht
    all_goals omega
  have g0 : ([x, y1, y2] ++ r).getD 0 0 = x := rfl
  have g1 : ([x, y1, y2] ++ r).getD 1 0 = y1 := rfl
  have g2 : ([x, y1, y2] ++ r).getD 2 0 = y2 := rfl
  simp only [V, Nat.reduceAdd, Nat.zero_add, g0, g1, g2] at hv
  unfold head at hv
  simp only [Nat.reduceEqDiff, if_true, if_false] at hv
  have hc := sz_cases n (by omega)
  rw [enc3 n (by omega) (by omega)]
  simp only [List.cons.injEq, and_true]
  omega

theorem again4 (x y1 y2 y3 n : Int) (r : List Int) (hx : 0 ≤ x ∧ x ≤ 255) (hy1 : 0 ≤ y1 ∧ y1 ≤ 255) (hy2 : 0 ≤ y2 ∧ y2 ≤ 255) (hy3 : 0 ≤ y3 ∧ y3 ≤ 255) (ht : told x = 4) (hv : V ([x, y1, y2, y3] ++ r) 4 3 = n) (hs : sz n = 4) : enc n = [x, y1, y2, y3] := by
  have hr : 224 ≤ x ∧ x < 240 := by
    unfold told at ht
    repeat' split at ht
    all_goals omega
  have g0 : ([x, y1, y2, y3] ++ r).getD 0 0 = x := rfl
  have g1 : ([x, y1, y2, y3] ++ r).getD 1 0 = y1 := rfl
  have g2 : ([x, y1, y2, y3] ++ r).getD 2 0 = y2 := rfl
  have g3 : ([x, y1, y2, y3] ++ r).getD 3 0 = y3 := rfl
  simp only [V, Nat.reduceAdd, Nat.zero_add, g0, g1, g2, g3] at hv
  unfold head at hv
  simp only [Nat.reduceEqDiff, if_true, if_false] at hv
  have hc := sz_cases n (by omega)
  rw [enc4 n (by omega) (by omega)]
  simp only [List.cons.injEq, and_true]
  omega

theorem again5 (x y1 y2 y3 y4 n : Int) (r : List Int) (hx : 0 ≤ x ∧ x ≤ 255) (hy1 : 0 ≤ y1 ∧ y1 ≤ 255) (hy2 : 0 ≤ y2 ∧ y2 ≤ 255) (hy3 : 0 ≤ y3 ∧ y3 ≤ 255) (hy4 : 0 ≤ y4 ∧ y4 ≤ 255) (ht : told x = 5) (hv : V ([x, y1, y2, y3, y4] ++ r) 5 4 = n) (hs : sz n = 5) : enc n = [x, y1, y2, y3, y4] := by
  have hr : 240 ≤ x ∧ x < 248 := by
    unfold told at ht
    repeat' split at ht
    all_goals omega
  have g0 : ([x, y1, y2, y3, y4] ++ r).getD 0 0 = x := rfl
  have g1 : ([x, y1, y2, y3, y4] ++ r).getD 1 0 = y1 := rfl
  have g2 : ([x, y1, y2, y3, y4] ++ r).getD 2 0 = y2 := rfl
  have g3 : ([x, y1, y2, y3, y4] ++ r).getD 3 0 = y3 := rfl
  have g4 : ([x, y1, y2, y3, y4] ++ r).getD 4 0 = y4 := rfl
  simp only [V, Nat.reduceAdd, Nat.zero_add, g0, g1, g2, g3, g4] at hv
  unfold head at hv
  simp only [Nat.reduceEqDiff, if_true, if_false] at hv
  have hc := sz_cases n (by omega)
  rw [enc5 n (by omega) (by omega)]
  simp only [List.cons.injEq, and_true]
  omega

theorem again6 (x y1 y2 y3 y4 y5 n : Int) (r : List Int) (hx : 0 ≤ x ∧ x ≤ 255) (hy1 : 0 ≤ y1 ∧ y1 ≤ 255) (hy2 : 0 ≤ y2 ∧ y2 ≤ 255) (hy3 : 0 ≤ y3 ∧ y3 ≤ 255) (hy4 : 0 ≤ y4 ∧ y4 ≤ 255) (hy5 : 0 ≤ y5 ∧ y5 ≤ 255) (ht : told x = 6) (hv : V ([x, y1, y2, y3, y4, y5] ++ r) 6 5 = n) (hs : sz n = 6) : enc n = [x, y1, y2, y3, y4, y5] := by
  have hr : 248 ≤ x ∧ x < 252 := by
    unfold told at ht
    repeat' split at ht
    all_goals omega
  have g0 : ([x, y1, y2, y3, y4, y5] ++ r).getD 0 0 = x := rfl
  have g1 : ([x, y1, y2, y3, y4, y5] ++ r).getD 1 0 = y1 := rfl
  have g2 : ([x, y1, y2, y3, y4, y5] ++ r).getD 2 0 = y2 := rfl
  have g3 : ([x, y1, y2, y3, y4, y5] ++ r).getD 3 0 = y3 := rfl
  have g4 : ([x, y1, y2, y3, y4, y5] ++ r).getD 4 0 = y4 := rfl
  have g5 : ([x, y1, y2, y3, y4, y5] ++ r).getD 5 0 = y5 := rfl
  simp only [V, Nat.reduceAdd, Nat.zero_add, g0, g1, g2, g3, g4, g5] at hv
  unfold head at hv
  simp only [Nat.reduceEqDiff, if_true, if_false] at hv
  have hc := sz_cases n (by omega)
  rw [enc6 n (by omega) (by omega)]
  simp only [List.cons.injEq, and_true]
  omega

theorem again7 (x y1 y2 y3 y4 y5 y6 n : Int) (r : List Int) (hx : 0 ≤ x ∧ x ≤ 255) (hy1 : 0 ≤ y1 ∧ y1 ≤ 255) (hy2 : 0 ≤ y2 ∧ y2 ≤ 255) (hy3 : 0 ≤ y3 ∧ y3 ≤ 255) (hy4 : 0 ≤ y4 ∧ y4 ≤ 255) (hy5 : 0 ≤ y5 ∧ y5 ≤ 255) (hy6 : 0 ≤ y6 ∧ y6 ≤ 255) (ht : told x = 7) (hv : V ([x, y1, y2, y3, y4, y5, y6] ++ r) 7 6 = n) (hs : sz n = 7) : enc n = [x, y1, y2, y3, y4, y5, y6] := by
  have hr : 252 ≤ x ∧ x < 254 := by
    unfold told at ht
    repeat' split at ht
    all_goals omega
  have g0 : ([x, y1, y2, y3, y4, y5, y6] ++ r).getD 0 0 = x := rfl
  have g1 : ([x, y1, y2, y3, y4, y5, y6] ++ r).getD 1 0 = y1 := rfl
  have g2 : ([x, y1, y2, y3, y4, y5, y6] ++ r).getD 2 0 = y2 := rfl
  have g3 : ([x, y1, y2, y3, y4, y5, y6] ++ r).getD 3 0 = y3 := rfl
  have g4 : ([x, y1, y2, y3, y4, y5, y6] ++ r).getD 4 0 = y4 := rfl
  have g5 : ([x, y1, y2, y3, y4, y5, y6] ++ r).getD 5 0 = y5 := rfl
  have g6 : ([x, y1, y2, y3, y4, y5, y6] ++ r).getD 6 0 = y6 := rfl
  simp only [V, Nat.reduceAdd, Nat.zero_add, g0, g1, g2, g3, g4, g5, g6] at hv
  unfold head at hv
  simp only [Nat.reduceEqDiff, if_true, if_false] at hv
  have hc := sz_cases n (by omega)
  rw [enc7 n (by omega) (by omega)]
  simp only [List.cons.injEq, and_true]
  omega

theorem again8 (x y1 y2 y3 y4 y5 y6 y7 n : Int) (r : List Int) (hx : 0 ≤ x ∧ x ≤ 255) (hy1 : 0 ≤ y1 ∧ y1 ≤ 255) (hy2 : 0 ≤ y2 ∧ y2 ≤ 255) (hy3 : 0 ≤ y3 ∧ y3 ≤ 255) (hy4 : 0 ≤ y4 ∧ y4 ≤ 255) (hy5 : 0 ≤ y5 ∧ y5 ≤ 255) (hy6 : 0 ≤ y6 ∧ y6 ≤ 255) (hy7 : 0 ≤ y7 ∧ y7 ≤ 255) (ht : told x = 8) (hv : V ([x, y1, y2, y3, y4, y5, y6, y7] ++ r) 8 7 = n) (hs : sz n = 8) : enc n = [x, y1, y2, y3, y4, y5, y6, y7] := by
  have hr : 254 ≤ x ∧ x < 255 := by
    unfold told at ht
    repeat' split at ht
    all_goals omega
  have g0 : ([x, y1, y2, y3, y4, y5, y6, y7] ++ r).getD 0 0 = x := rfl
  have g1 : ([x, y1, y2, y3, y4, y5, y6, y7] ++ r).getD 1 0 = y1 := rfl
  have g2 : ([x, y1, y2, y3, y4, y5, y6, y7] ++ r).getD 2 0 = y2 := rfl
  have g3 : ([x, y1, y2, y3, y4, y5, y6, y7] ++ r).getD 3 0 = y3 := rfl
  have g4 : ([x, y1, y2, y3, y4, y5, y6, y7] ++ r).getD 4 0 = y4 := rfl
  have g5 : ([x, y1, y2, y3, y4, y5, y6, y7] ++ r).getD 5 0 = y5 := rfl
  have g6 : ([x, y1, y2, y3, y4, y5, y6, y7] ++ r).getD 6 0 = y6 := rfl
  have g7 : ([x, y1, y2, y3, y4, y5, y6, y7] ++ r).getD 7 0 = y7 := rfl
  simp only [V, Nat.reduceAdd, Nat.zero_add, g0, g1, g2, g3, g4, g5, g6, g7] at hv
  unfold head at hv
  simp only [Nat.reduceEqDiff, if_false] at hv
  have hc := sz_cases n (by omega)
  rw [enc8 n (by omega)]
  simp only [List.cons.injEq, and_true]
  omega

theorem num_again (most n : Int) (l : List Int) (k : Nat) (hl : ∀ i : Nat, 0 ≤ l.getD i 0 ∧ l.getD i 0 ≤ 255) (h : num most l = (n, 0, k)) : k ≤ l.length ∧ enc n = l.take k := by
  unfold num at h
  have htb := told_bd (l.getD 0 0)
  split at h
  · simp at h
  split at h
  · simp at h
  split at h
  · simp at h
  split at h
  · simp at h
  rename_i h0 h9 hs hb
  simp only [Prod.mk.injEq, true_and] at h
  obtain ⟨hv, hk⟩ := h
  have hb' : sz (V l (told (l.getD 0 0)) (told (l.getD 0 0) - 1)) = told (l.getD 0 0) := by
    by_cases q : sz (V l (told (l.getD 0 0)) (told (l.getD 0 0) - 1)) = told (l.getD 0 0)
    · exact q
    · exact absurd (Or.inl q) hb
  rw [hk] at hv hb' hs
  rw [hv] at hb'
  refine ⟨by omega, ?_⟩
  obtain ⟨hh, r, rfl, hlen⟩ := list_split k l (by omega)
  rw [List.take_left' hlen]
  have hk8 : k = 1 ∨ k = 2 ∨ k = 3 ∨ k = 4 ∨ k = 5 ∨ k = 6 ∨ k = 7 ∨ k = 8 := by omega
  rcases hk8 with rfl | rfl | rfl | rfl | rfl | rfl | rfl | rfl
  · match hh, hlen with
    | [x], _ => exact again1 x n r (hl 0) hk hv hb'
  · match hh, hlen with
    | [x, y1], _ => exact again2 x y1 n r (hl 0) (hl 1) hk hv hb'
  · match hh, hlen with
    | [x, y1, y2], _ => exact again3 x y1 y2 n r (hl 0) (hl 1) (hl 2) hk hv hb'
  · match hh, hlen with
    | [x, y1, y2, y3], _ => exact again4 x y1 y2 y3 n r (hl 0) (hl 1) (hl 2) (hl 3) hk hv hb'
  · match hh, hlen with
    | [x, y1, y2, y3, y4], _ => exact again5 x y1 y2 y3 y4 n r (hl 0) (hl 1) (hl 2) (hl 3) (hl 4) hk hv hb'
  · match hh, hlen with
    | [x, y1, y2, y3, y4, y5], _ => exact again6 x y1 y2 y3 y4 y5 n r (hl 0) (hl 1) (hl 2) (hl 3) (hl 4) (hl 5) hk hv hb'
  · match hh, hlen with
    | [x, y1, y2, y3, y4, y5, y6], _ => exact again7 x y1 y2 y3 y4 y5 y6 n r (hl 0) (hl 1) (hl 2) (hl 3) (hl 4) (hl 5) (hl 6) hk hv hb'
  · match hh, hlen with
    | [x, y1, y2, y3, y4, y5, y6, y7], _ => exact again8 x y1 y2 y3 y4 y5 y6 y7 n r (hl 0) (hl 1) (hl 2) (hl 3) (hl 4) (hl 5) (hl 6) (hl 7) hk hv hb'
end Num
end

section
variable {RB : Nat}

/-- A row of integers that came in: nil; or 'cap' cells, the numbers 'zs', of which the first 'len' are its elements; within the reach. -/
def IsRow (k : IntKind) (w : World) (a : Option Addr) (len cap : Nat) (zs : List Int) : Prop :=
  (a = none ∧ len = 0 ∧ cap = 0 ∧ zs = []) ∨
  ∃ x, a = some x ∧ len ≤ cap ∧ cap ≤ 140737488351232 ∧ zs.length = cap ∧ (∀ i, i < zs.length → w.cell? (x.add i) = some (.int k (zs.getD i 0))) ∧ ∀ n ∈ zs, (Lit.int k n).wf = true

/-- A row of bytes that came in: one that is read; or an empty one, wherever it lies. -/
def Bx (N : Nat) (w : World) (v : Value) (l : List Int) : Prop := Bs (fun b => b < N) w v l ∨ (l = [] ∧ ∃ x cap, v = .slice (some x) 0 cap)

theorem IsRow.bx {w : World} {a : Option Addr} {len cap : Nat} {zs : List Int} (h : IsRow .u8 w a len cap zs) : Bx w.heap.size w (.slice a len cap) (zs.take len) ∧ (zs.take len).length = len ∧ len ≤ 140737488351232 ∧ Byt (zs.take len) := by
  rcases h with ⟨rfl, rfl, rfl, rfl⟩ | ⟨x, rfl, hl, hm, hz, hcell, hwz⟩
  · exact ⟨Or.inl (Bs.ofNil _ _), rfl, by omega, Byt.nil⟩
  · have hlen : (zs.take len).length = len := by rw [List.length_take]; omega
    have hb : Byt (zs.take len) := by
      intro y hy
      have h1 := bounds_u8 (hwz y (List.mem_of_mem_take hy))
      omega
    refine ⟨?_, hlen, by omega, hb⟩
    by_cases h0 : len = 0
    · subst h0
      exact Or.inr ⟨rfl, x, cap, rfl⟩
    · obtain ⟨b, off, spot⟩ := x
      have hc := hcell 0 (by omega)
      have hspot : spot = none := by simpa [Addr.add] using World.cell?_spot hc
      subst hspot
      have hlt : b < w.heap.size := by
        have h2 : w.cell? ⟨b, off, none⟩ = some (.int .u8 (zs.getD 0 0)) := by simpa [Addr.add] using hc
        exact World.block_lt_of_cell? w ⟨b, off, none⟩ h2
      refine Or.inl ⟨hb, by omega, Or.inr ⟨b, off, cap, by rw [hlen], by omega, hlt, hlt, fun i hi => ?_⟩⟩
      rw [hlen] at hi
      have h3 := hcell i (by omega)
      rw [Addr.add_lit] at h3
      rw [h3]
      simp [hi]

theorem Bx.keep {N : Nat} {w w' : World} {v : Value} {l : List Int} (h : Bx N w v l) (k : Below w.heap.size w w') : Bx N w' v l := by
  rcases h with h | h
  · exact Or.inl (h.keepB k)
  · exact Or.inr h

theorem Bx.keepO {N : Nat} {w w' : World} {rb : Nat} {v : Value} {l : List Int} (h : Bx N w v l) (k : Kp (fun b => b = rb) w w') (hn : N ≤ rb) : Bx N w' v l := by
  rcases h with h | h
  · exact Or.inl (h.keepO k (fun b hb e => by omega))
  · exact Or.inr h

theorem New_bx {N : Nat} {w : World} {v : Value} {l : List Int} (h : Bx N w v l) : Calls Try.prog 27 #[v] w fun e w' => NewEnd w l e w' := by
  rcases h with h | ⟨rfl, x, cap, rfl⟩
  · exact New_any h
  · exact New_of (clone_emp w x cap)

theorem Bx.len {N : Nat} {w : World} {v : Value} {l : List Int} (h : Bx N w v l) : ∃ a cap, v = .slice a l.length cap := by
  rcases h with h | ⟨rfl, x, cap, rfl⟩
  · exact h.len
  · exact ⟨_, _, rfl⟩

theorem eq_bx {N : Nat} {A : Nat → Prop} {w : World} {va vb : Value} {la lb : List Int} (ha : Bs A w va la) (hb : Bx N w vb lb) :
    Calls Try.prog 8 #[va, vb] w fun e w' => EqEnd w la lb e w' := by
  rcases hb with hb | ⟨rfl, x, cap, rfl⟩
  · exact eq_any ha hb
  · obtain ⟨a, c, rfl⟩ := ha.len
    by_cases h0 : la.length = 0
    · have e1 : la = [] := List.length_eq_zero_iff.1 h0
      subst e1
      refine (eq_none a (some x) c cap w).mono ?_
      rintro e w' ⟨rfl, rfl⟩
      exact ⟨rfl, 0, rfl⟩
    · refine (eq_len a (some x) _ _ c cap w h0).mono ?_
      rintro e w' ⟨rfl, rfl⟩
      refine ⟨?_, 0, rfl⟩
      rw [decide_eq_false]
      intro h
      rw [h] at h0
      exact h0 rfl
end

end Go.Proofs.Yteifaipbckhoiab
