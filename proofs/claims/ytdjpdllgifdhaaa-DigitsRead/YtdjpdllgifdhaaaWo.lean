/- The chapter's examples hold: works answers true. -/
import Derived.Test.YtdjpdllgifdhaaaWk
import Derived.Test.YtdjpdllgifdhaaaRt
namespace Go.Proofs.Ytdjpdllgifdhaaa
open Go.RowKit
variable {RB : Nat}
set_option linter.unusedVariables false

theorem uStep_ok (most n : Int) (r : List Int) (h0 : 0 ≤ n) (h1 : n < 72057594037927936) (hm : n ≤ most) : uStep most (Num.enc n ++ r) 0 = (n, r, 0) := by
  unfold uStep
  rw [if_neg (by omega), Num.num_enc most n r h0 h1 hm, if_neg (by simp)]
  simp only [← Num.enc_length, List.drop_left]

theorem uStep_all (most n : Int) (h0 : 0 ≤ n) (h1 : n < 72057594037927936) (hm : n ≤ most) : uStep most (Num.enc n) 0 = (n, [], 0) := by
  have h := uStep_ok most n [] h0 h1 hm
  rwa [List.append_nil] at h

/-- A new row that is built of bytes. -/
theorem built (w : World) (l : List Int) (cs : Array Value) (hcs : cs = u8s l) (n : Nat) (hn : l.length = n) (hl : Byt l) (hb : l.length ≤ 140737488355328) :
    Bs (fun b => w.heap.size ≤ b) (w.alloc (.cells cs 5)) (.slice (some ⟨w.heap.size, 0, none⟩) n n) l := by
  subst hcs; subst hn
  exact Bs.fresh0 w l 5 _ hl hb (Nat.le_refl _) _ (Nat.le_refl _)

theorem RText_is {w : World} {rb : Nat} {l l' bs : List Int} {e0 e1 : Int} (h : Rd RB w rb l e0) (n : Int) (hs : bStep (textR n l) l e0 = (bs, l', e1)) (s : ByteArray) (he : strOfNums bs = s) :
    Calls Try.prog 23 #[.pointer (some ⟨rb, 0, none⟩), .int .i64 n] w fun e w' => e = .returned (.string s) ∧ Rd RB w' rb l' e1 ∧ Kp (fun b => b = rb) w w' := by
  refine (RText_any h n).mono ?_
  intro e w' ht
  rw [hs] at ht
  unfold TextEnd at ht
  rw [he] at ht
  exact ht

theorem Text_ab (w : World) : Calls Try.prog 13 #[.string ⟨#[97, 98]⟩] w fun e w' => ∃ a cap, e = .returned (.tuple #[.slice a 3 cap, .int .i64 0]) ∧ Bs (fun b => w.heap.size ≤ b) w' (.slice a 3 cap) [2, 97, 98] ∧ Below w.heap.size w w' :=
  Text_ok ⟨#[97, 98]⟩ w (by decide)

theorem u_built (w : World) (n : Int) (l : List Int) (cs : Array Value) (k : Nat) (hcs : cs = u8s l) (hl : Num.enc n = l) (hk : l.length = k) (h0 : 0 ≤ n) (h1 : n ≤ 9007199254740991) :
    Calls Try.prog 40 #[.int .i64 n, .slice (some ⟨w.heap.size, 0, none⟩) k k] (w.alloc (.cells cs 5)) fun e w' => e = .returned (.bool true) ∧ Below w.heap.size w w' := by
  have h8 := Num.sz_bd n h0
  have he := Num.enc_length n
  have hb := built w l cs hcs k hk (hl ▸ enc_byt n h0 (by omega)) (by rw [← hl]; omega)
  rw [← hl] at hb
  refine (u_true hb h0 h1 (uStep_all _ n h0 (by omega) h1)).mono ?_
  rintro e w' ⟨rfl, hk'⟩
  exact ⟨rfl, below_below ((Below.refl _ _).alloc (Nat.le_refl _) _) hk'⟩

theorem s_built (w : World) (n : Int) (l : List Int) (cs : Array Value) (k : Nat) (hcs : cs = u8s l) (hl : Num.enc (foldI n) = l) (hk : l.length = k) (h0 : -9007199254740991 ≤ n) (h1 : n ≤ 9007199254740991) :
    Calls Try.prog 41 #[.int .i64 n, .slice (some ⟨w.heap.size, 0, none⟩) k k] (w.alloc (.cells cs 5)) fun e w' => e = .returned (.bool true) ∧ Below w.heap.size w w' := by
  have hf := foldI_bd n h0 h1
  have h8 := Num.sz_bd (foldI n) hf.1
  have he := Num.enc_length (foldI n)
  have hb := built w l cs hcs k hk (hl ▸ enc_byt (foldI n) hf.1 (by omega)) (by rw [← hl]; omega)
  rw [← hl] at hb
  refine (s_true hb h0 h1 (uStep_all _ (foldI n) hf.1 (by omega) hf.2)).mono ?_
  rintro e w' ⟨rfl, hk'⟩
  exact ⟨rfl, below_below ((Below.refl _ _).alloc (Nat.le_refl _) _) hk'⟩

theorem fails_built (w : World) (er : Int) (l : List Int) (cs : Array Value) (k : Nat) (hcs : cs = u8s l) (hl : Byt l) (hk : l.length = k) (hb : l.length ≤ 140737488355328) (he : er ≠ 0) (hs : uStep 9007199254740991 l 0 = (0, [], er)) :
    Calls Try.prog 42 #[.int .i64 er, .slice (some ⟨w.heap.size, 0, none⟩) k k] (w.alloc (.cells cs 5)) fun e w' => e = .returned (.bool true) ∧ Below w.heap.size w w' := by
  refine (fails_true (built w l cs hcs k hk hl hb) he hs).mono ?_
  rintro e w' ⟨rfl, hk'⟩
  exact ⟨rfl, below_below ((Below.refl _ _).alloc (Nat.le_refl _) _) hk'⟩

theorem eq_built {A : Nat → Prop} (w : World) (l : List Int) (cs : Array Value) (k : Nat) (v : Value) (hcs : cs = u8s l) (hk : l.length = k) (h : Bs A w v l) :
    Calls Try.prog 15 #[v, .slice (some ⟨w.heap.size, 0, none⟩) k k] (w.alloc (.cells cs 5)) fun e w' => e = .returned (.bool true) ∧ Below w.heap.size w w' := by
  refine (eq_same (h.keepB ((Below.refl _ _).alloc (Nat.le_refl _) _)) (built w l cs hcs k hk h.1 h.2.1)).mono ?_
  rintro e w' ⟨rfl, m, rfl⟩
  exact ⟨rfl, below_drewN ((Below.refl _ _).alloc (Nat.le_refl _) _) m⟩

theorem byt_dec (l : List Int) (h : (l.all fun x => decide (0 ≤ x) && decide (x ≤ 255)) = true) : Byt l := by
  intro x hx
  have := List.all_eq_true.1 h x hx
  simpa using this

set_option maxHeartbeats 4000000 in
theorem works_true (w : World) : Calls Try.prog 16 #[] w fun e w' => TrueEnd w e w' := by
  go_enter Try.func16, Try.ntmps16
  go_wp2_with fail
  refine (U_low (-1) _ (by omega)).mono ?_
  rintro e w1 ⟨rfl, rfl⟩
  go_wp2_with fail
  refine (Text_ab _).mono ?_
  rintro e w2 ⟨a, cap, rfl, hb, hk⟩
  have HT := hd hb
  have HK2 := hd hk
  clear hb hk
  go_wp2_with fail
  refine (New_any (built _ [2, 97, 98, 5] _ rfl 4 rfl (byt_dec _ rfl) (by decide))).mono ?_
  rintro e w3 ⟨rb, rfl, hrb, hr, hk⟩
  have HRB : Hid (w2.heap.size ≤ rb) := by simp at hrb; show _ ≤ _; omega
  have HR := hd hr
  have HK3 := hd (below_below ((Below.refl _ _).alloc (Nat.le_refl _) _) hk)
  clear hrb hr hk
  go_wp2_with fail
  refine (RText_is HR.out 2 (bs := [97, 98]) (l' := [5]) (e1 := 0) rfl ⟨#[97, 98]⟩ rfl).mono ?_
  rintro e w4 ⟨rfl, hr, hk⟩
  have HR4 := hd hr
  have HK4 := hd (below_kp HK3.out HRB.out hk)
  clear hr hk
  go_wp2_with fail
  refine (RU_is HR4.out 5 (l' := []) (e1 := 0) rfl).mono ?_
  rintro e w5 ⟨rfl, hr, hk⟩
  have HR5 := hd hr
  have HK5 := hd (below_below HK2.out (below_kp HK4.out HRB.out hk))
  have HT5 := hd (HT.out.keepB (below_kp HK4.out HRB.out hk))
  clear hr hk
  go_wp2_with (first
    | (go_at_call 32; refine (Left_zero HR5.out).mono ?_; rintro e w6 ⟨rfl, rfl⟩)
    | (go_at_call 31; refine (Err_any HR5.out).mono ?_; rintro e w6 ⟨rfl, rfl⟩))
  clear HR4 HK4 HR5 HR HK3 HRB HT HK2
  refine (u_built _ 0 [0] _ 1 rfl rfl rfl (by omega) (by omega)).mono ?_
  rintro e v6 ⟨rfl, hk⟩
  have HK6 := hd (below_below HK5.out hk)
  have HT6 := hd (HT5.out.keepB hk)
  clear hk HK5 HT5
  go_wp2_with fail
  refine (u_built _ 127 [127] _ 1 rfl rfl rfl (by omega) (by omega)).mono ?_
  rintro e v7 ⟨rfl, hk⟩
  have HK7 := hd (below_below HK6.out hk)
  have HT7 := hd (HT6.out.keepB hk)
  clear hk HK6 HT6
  go_wp2_with fail
  refine (u_built _ 128 [128, 128] _ 2 rfl rfl rfl (by omega) (by omega)).mono ?_
  rintro e v8 ⟨rfl, hk⟩
  have HK8 := hd (below_below HK7.out hk)
  have HT8 := hd (HT7.out.keepB hk)
  clear hk HK7 HT7
  go_wp2_with fail
  refine (u_built _ 16384 [192, 64, 0] _ 3 rfl rfl rfl (by omega) (by omega)).mono ?_
  rintro e v9 ⟨rfl, hk⟩
  have HK9 := hd (below_below HK8.out hk)
  have HT9 := hd (HT8.out.keepB hk)
  clear hk HK8 HT8
  go_wp2_with fail
  refine (s_built _ 0 [0] _ 1 rfl rfl rfl (by omega) (by omega)).mono ?_
  rintro e v10 ⟨rfl, hk⟩
  have HK10 := hd (below_below HK9.out hk)
  have HT10 := hd (HT9.out.keepB hk)
  clear hk HK9 HT9
  go_wp2_with fail
  refine (s_built _ (-1) [1] _ 1 rfl rfl rfl (by omega) (by omega)).mono ?_
  rintro e v11 ⟨rfl, hk⟩
  have HK11 := hd (below_below HK10.out hk)
  have HT11 := hd (HT10.out.keepB hk)
  clear hk HK10 HT10
  go_wp2_with fail
  refine (s_built _ 1 [2] _ 1 rfl rfl rfl (by omega) (by omega)).mono ?_
  rintro e v12 ⟨rfl, hk⟩
  have HK12 := hd (below_below HK11.out hk)
  have HT12 := hd (HT11.out.keepB hk)
  clear hk HK11 HT11
  go_wp2_with fail
  refine (s_built _ (-64) [127] _ 1 rfl rfl rfl (by omega) (by omega)).mono ?_
  rintro e v13 ⟨rfl, hk⟩
  have HK13 := hd (below_below HK12.out hk)
  have HT13 := hd (HT12.out.keepB hk)
  clear hk HK12 HT12
  go_wp2_with fail
  refine (s_built _ 64 [128, 128] _ 2 rfl rfl rfl (by omega) (by omega)).mono ?_
  rintro e v14 ⟨rfl, hk⟩
  have HK14 := hd (below_below HK13.out hk)
  have HT14 := hd (HT13.out.keepB hk)
  clear hk HK13 HT13
  go_wp2_with fail
  refine (eq_built _ [2, 97, 98] _ 3 _ rfl rfl HT14.out).mono ?_
  rintro e v15 ⟨rfl, hk⟩
  have HK15 := hd (below_below HK14.out hk)
  clear hk HK14 HT14
  go_wp2_with fail
  refine (fails_built _ 4 [128, 127] _ 2 rfl (byt_dec _ rfl) rfl (by decide) (by decide) rfl).mono ?_
  rintro e v16 ⟨rfl, hk⟩
  have HK16 := hd (below_below HK15.out hk)
  clear hk HK15
  go_wp2_with fail
  refine (fails_built _ 4 [255, 0] _ 2 rfl (byt_dec _ rfl) rfl (by decide) (by decide) rfl).mono ?_
  rintro e v17 ⟨rfl, hk⟩
  have HK17 := hd (below_below HK16.out hk)
  clear hk HK16
  go_wp2_with fail
  refine (fails_built _ 3 [128] _ 1 rfl (byt_dec _ rfl) rfl (by decide) (by decide) rfl).mono ?_
  rintro e v18 ⟨rfl, hk⟩
  have HK18 := hd (below_below HK17.out hk)
  clear hk HK17
  go_wp2
  go_ret
  exact ⟨rfl, HK18.out⟩

end Go.Proofs.Ytdjpdllgifdhaaa
