/- EqBytes: are two rows of bytes the same. -/
import Derived.Test.YtcgimbomandjfaaProg
import Derived.Test.YtcgimbomandjfaaMem
import Derived.Deep.QuietTactic
import Derived.BigQuiet
namespace Go.Proofs.Ytcgimbomandjfaa
open Go.RowKit
set_option linter.unusedVariables false

set_option maxHeartbeats 400000 in
theorem eq_len (a b : Option Addr) (n m c d : Nat) (w : World) (h : n ≠ m) :
    Calls Try.prog 26 #[.slice a n c, .slice b m d] w fun e w' => e = .returned (.bool false) ∧ w' = w := by
  have h' : ((n : Int) != (m : Int)) = true := by rw [bne_iff_ne]; omega
  go_enter Try.func26, Try.ntmps26
  go_wp2
  go_ret
  exact ⟨rfl, rfl⟩

set_option maxHeartbeats 400000 in
theorem eq_none (a b : Option Addr) (c d : Nat) (w : World) :
    Calls Try.prog 26 #[.slice a 0 c, .slice b 0 d] w fun e w' => e = .returned (.bool true) ∧ w' = w := by
  go_enter Try.func26, Try.ntmps26
  go_wp2
  refine wp_loop_rounds 1 ?_
  rw [rounds_succ]
  go_wp2
  go_ret
  exact ⟨rfl, rfl⟩

theorem take_eq_succ {la lb : List Int} {k : Nat} (h : la.take k = lb.take k) (ha : k < la.length) (hb : k < lb.length) (he : la.getD k 0 = lb.getD k 0) : la.take (k + 1) = lb.take (k + 1) := by
  rw [List.take_succ_eq_append_getElem ha, List.take_succ_eq_append_getElem hb, h]
  rw [List.getD_eq_getElem?_getD, List.getD_eq_getElem?_getD, List.getElem?_eq_getElem ha, List.getElem?_eq_getElem hb] at he
  simp only [Option.getD_some] at he
  rw [he]

def EqEnd (w : World) (la lb : List Int) (e : Ending) (w' : World) : Prop := e = .returned (.bool (decide (la = lb))) ∧ ∃ m, w' = w.drewN m

set_option maxHeartbeats 1000000 in
theorem eq_some (b1 o1 b2 o2 c d n : Nat) (w : World) (la lb : List Int) (hla : la.length = n) (hlb : lb.length = n) (hb : n ≤ 140737488355328) (ha' : Byt la) (hb' : Byt lb)
    (h1 : ∀ i, i < n → w.cell? ⟨b1, o1 + i, none⟩ = some (.int .u8 (la.getD i 0))) (h2 : ∀ i, i < n → w.cell? ⟨b2, o2 + i, none⟩ = some (.int .u8 (lb.getD i 0))) :
    Calls Try.prog 26 #[.slice (some ⟨b1, o1, none⟩) n c, .slice (some ⟨b2, o2, none⟩) n d] w fun e w' => EqEnd w la lb e w' := by
  have H1 := hd h1
  have H2 := hd h2
  have HA : Hid (la.length = n) := hla
  have HB : Hid (lb.length = n) := hlb
  clear h1 h2 hla hlb
  go_enter Try.func26, Try.ntmps26
  go_wp2
  go_loopw [5] (fun i wr => ∃ k : Nat, k ≤ n ∧ i = .int .i64 k ∧ la.take k = lb.take k ∧ ∃ m, wr = w.drewN m) (fun i _ => n - (intOf i).toNat)
  case atStart => exact ⟨0, Nat.zero_le _, rfl, rfl, 0, rfl⟩
  case round =>
    obtain ⟨k, hk, rfl, htk, m, rfl⟩ := hrel
    have HT : Hid (la.take k = lb.take k) := htk
    clear htk
    by_cases hlt : k < n
    · have c1 := H1.out k hlt
      have c2 := H2.out k hlt
      have hlt' : (k : Int) < (n : Int) := by omega
      by_cases he : la.getD k 0 = lb.getD k 0
      · have HE : Hid (la.getD k 0 = lb.getD k 0) := he
        rw [← he] at c2
        clear he
        generalize la.getD k 0 = x at c1 c2
        go_wp2
        go_quiet (fail)
        go_wp2
        go_roundw
        case rel => exact ⟨k + 1, by omega, by go_num, take_eq_succ HT.out (by rw [HA.out]; omega) (by rw [HB.out]; omega) HE.out, _, rfl⟩
        case measure => simp [intOf]; omega
      · have HE : Hid (¬ la = lb) := fun h => he (by rw [h])
        have he' : (la.getD k 0 != lb.getD k 0) = true := by rw [bne_iff_ne]; exact he
        clear he
        generalize la.getD k 0 = x at c1 he'
        generalize lb.getD k 0 = y at c2 he'
        go_wp2
        go_quiet (fail)
        go_wp2
        go_ret
        exact ⟨by rw [decide_eq_false HE.out]; rfl, m + nq, by rw [World.drewN_drewN]⟩
    · have hkn : k = n := by omega
      subst hkn
      go_wp2
      go_ret
      refine ⟨?_, _, rfl⟩
      have h := HT.out
      rw [List.take_of_length_le (by rw [HA.out]; exact Nat.le_refl _), List.take_of_length_le (by rw [HB.out]; exact Nat.le_refl _)] at h
      rw [decide_eq_true h]; rfl

theorem eq_any {A B : Nat → Prop} {w : World} {va vb : Value} {la lb : List Int} (ha : Bs A w va la) (hb : Bs B w vb lb) :
    Calls Try.prog 26 #[va, vb] w fun e w' => EqEnd w la lb e w' := by
  by_cases hn : la.length = lb.length
  · by_cases h0 : la.length = 0
    · obtain ⟨a, c, rfl⟩ := ha.len
      obtain ⟨b, d, rfl⟩ := hb.len
      have e1 : la = [] := List.length_eq_zero_iff.1 h0
      have e2 : lb = [] := List.length_eq_zero_iff.1 (by omega)
      subst e1; subst e2
      refine (eq_none a b c d w).mono ?_
      rintro e w' ⟨rfl, rfl⟩
      exact ⟨rfl, 0, rfl⟩
    · obtain ⟨a1, a2, a3⟩ := ha
      obtain ⟨b1, b2, b3⟩ := hb
      rcases a3 with ⟨_, q⟩ | ⟨x1, x2, x3, rfl, x5, x6, x7, x8⟩
      · rw [q] at h0; exact absurd rfl h0
      rcases b3 with ⟨_, q⟩ | ⟨y1, y2, y3, rfl, y5, y6, y7, y8⟩
      · rw [q] at hn; exact absurd hn h0
      rw [← hn] at y8 ⊢
      exact eq_some x1 x2 y1 y2 x3 y3 la.length w la lb rfl hn.symm a2 a1 b1 x8 y8
  · obtain ⟨a, c, rfl⟩ := ha.len
    obtain ⟨b, d, rfl⟩ := hb.len
    refine (eq_len a b _ _ c d w hn).mono ?_
    rintro e w' ⟨rfl, rfl⟩
    exact ⟨by rw [decide_eq_false (fun h => hn (by rw [h]))], 0, rfl⟩

end Go.Proofs.Ytcgimbomandjfaa
