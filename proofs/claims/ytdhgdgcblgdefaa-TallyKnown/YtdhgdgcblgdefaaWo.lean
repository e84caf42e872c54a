/- The chapter's examples hold: works answers true. Bring. -/
import Derived.Test.YtdhgdgcblgdefaaRw
import Derived.Test.YtdhgdgcblgdefaaRo
import Derived.Lib.SlBytesConst
namespace Go.Proofs.Ytdhgdgcblgdefaa
open Go.RowKit
set_option linter.unusedVariables false

def TrueEnd (w : World) (e : Ending) (w' : World) : Prop := e = .returned (.bool true) ∧ Below w.heap.size w w'

theorem below_below {w w1 w2 : World} (h : Below w.heap.size w w1) (k : Below w1.heap.size w1 w2) : Below w.heap.size w w2 := h.trans (k.mono h.size)

theorem of_is {w : World} {v : Value} {l : List Int} (h : Bx w v l) (n : Int) (hn : ((Crc.on 0#32 l).toNat : Int) = n) :
    Calls Try.prog 10 #[v] w fun e w' => e = .returned (.int .u32 n) ∧ Below w.heap.size w w' := by
  subst hn
  exact of_any h

theorem byt_dec (l : List Int) (h : (l.all fun x => decide (0 ≤ x) && decide (x ≤ 255)) = true) : Byt l := by
  intro x hx
  have := List.all_eq_true.1 h x hx
  simpa using this

/-- A new row that is built of bytes. -/
theorem built (w : World) (l : List Int) (cs : Array Value) (hcs : cs = u8s l) (n : Nat) (hn : l.length = n) (hl : Byt l) (hb : l.length ≤ 140737488355328) :
    Bs (fun b => w.heap.size ≤ b) (w.alloc (.cells cs 5)) (.slice (some ⟨w.heap.size, 0, none⟩) n n) l := by
  subst hcs; subst hn
  exact Bs.fresh0 w l 5 _ hl hb (Nat.le_refl _) _ (Nat.le_refl _)

/-- A new row of constant bytes, with the mark behind it. -/
theorem builtM (w : World) (l : List Int) (cs : Array Value) (hcs : cs = u8s l) (fr : Nat × Nat) (n : Nat) (hn : l.length = n) (hl : Byt l) (hb : l.length ≤ 140737488355328) :
    Bs (fun b => w.heap.size ≤ b) (w.alloc (.cells cs 5 fr)) (.slice (some ⟨w.heap.size, 0, none⟩) n n) l := by
  subst hcs; subst hn
  refine ⟨hl, hb, Or.inr ⟨_, _, _, rfl, Nat.le_refl _, Nat.le_refl _, by simp, fun i hi => ?_⟩⟩
  rw [cell_of_row (w.alloc (.cells (u8s l) 5 fr)) w.heap.size (0 + i) (u8s l) 5 fr (heap_alloc_new w _), Nat.zero_add]
  exact u8s_get l i hi

theorem und5 : Try.prog.underlying 5 = some (.int .u8) := by kernel_rfl

theorem Bs.bx {A : Nat → Prop} {w : World} {v : Value} {l : List Int} (h : Bs A w v l) : Bx w v l := Or.inl (h.weaken (fun _ _ _ => trivial))
theorem Bx.nil (w : World) : Bx w (.slice none 0 0) [] := Or.inr ⟨rfl, _, _, rfl⟩

theorem eq_same {A B : Nat → Prop} {w : World} {va vb : Value} {l : List Int} (ha : Bs A w va l) (hb : Bs B w vb l) :
    Calls Try.prog 14 #[va, vb] w fun e w' => e = .returned (.bool true) ∧ ∃ m, w' = w.drewN m := by
  refine (eq_any ha hb).mono ?_
  rintro e w' ⟨rfl, m, rfl⟩
  exact ⟨by rw [decide_eq_true rfl], m, rfl⟩

set_option maxHeartbeats 4000000 in
theorem works_true (w : World) : Calls Try.prog 17 #[] w fun e w' => TrueEnd w e w' := by
  have kc := fun (w : World) (C : Array Value) (n c : Nat) => Lib.run_convert_bytes_const (P := Try.prog) w 23 5 C n c und23 und5
  go_enter Try.func17, Try.ntmps17
  go_wp2_with fail
  refine (of_is (Bx.nil _) 0 (by decide +kernel)).mono ?_
  rintro e w1 ⟨rfl, hk⟩
  have HK1 := hd hk
  clear hk
  go_wp2_with fail
  refine (of_is (builtM _ [97] _ rfl _ 1 rfl (byt_dec _ rfl) (by decide)).bx 3904355907 (by decide +kernel)).mono ?_
  rintro e w2 ⟨rfl, hk⟩
  have HK2 := hd (below_below HK1.out (below_below ((Below.refl _ _).alloc (Nat.le_refl _) _) hk))
  clear hk HK1
  go_wp2_with fail
  refine (of_is (builtM _ [49, 50, 51, 52, 53, 54, 55, 56, 57] _ rfl _ 9 rfl (byt_dec _ rfl) (by decide)).bx 3421780262 (by decide +kernel)).mono ?_
  rintro e w3 ⟨rfl, hk⟩
  have HK3 := hd (below_below HK2.out (below_below ((Below.refl _ _).alloc (Nat.le_refl _) _) hk))
  clear hk HK2
  go_wp2_with fail
  refine (row_ok 16909060 _ (by decide) (by decide)).mono ?_
  rintro e w4 ⟨a, cap, rfl, hb, hk⟩
  have HR := hd hb
  have HK4 := hd (below_below HK3.out hk)
  clear hb hk HK3
  go_wp2_with fail
  refine (eq_same (HR.out.keep (kpB ((Below.refl _ _).alloc (Nat.le_refl _) _) (fun _ => False)) (fun _ _ _ h => h)) (built _ (row4 16909060) _ rfl 4 rfl (row4_byt _ (by decide) (by decide)) (by decide))).mono ?_
  rintro e w5 ⟨rfl, m, rfl⟩
  go_wp2_with fail
  go_ret
  exact ⟨rfl, below_drewN (below_below HK4.out ((Below.refl _ _).alloc (Nat.le_refl _) _)) m⟩

theorem tmod_neg (i n : Int) (hn : 0 < n) (hn' : n ≤ 9007199254740992) (h : i.tmod n < 0) : wrap64 (i.tmod n + n) = i % n := by
  have h1 := Int.lt_tmod_of_pos i hn
  have h2 := Int.tmod_add_mul_tdiv i n
  have h3 : i % n = (i.tmod n + n) % n := by
    rw [← h2, Int.add_mul_emod_self_left, Int.add_emod_right, h2]
  rw [h3, Int.emod_eq_of_lt (by omega) (by omega)]
  unfold wrap64; omega

theorem tmod_pos (i n : Int) (hn : 0 < n) (h : 0 ≤ i.tmod n) : i.tmod n = i % n := by
  have h1 := Int.tmod_lt_of_pos i hn
  have h2 := Int.tmod_add_mul_tdiv i n
  have h3 : i % n = i.tmod n % n := by
    have h4 := Int.add_mul_emod_self_left (i.tmod n) n (i.tdiv n)
    rw [h2] at h4
    exact h4
  rw [h3, Int.emod_eq_of_lt h h1]

set_option maxHeartbeats 400000 in
/-- R.Bring: the remainder, from 0 on. -/
theorem bring_any (i n : Int) (w : World) (h0 : -9223372036854775808 ≤ i) (h1 : i ≤ 9223372036854775807) (hn : 0 < n) (hn' : n ≤ 9007199254740992) :
    Calls Try.prog 18 #[.int .i64 i, .int .i64 n] w fun e w' => e = .returned (.int .i64 (i % n)) ∧ w' = w := by
  have hz : (n == 0) = false := by rw [beq_eq_false_iff_ne]; omega
  have hm : (n == -1) = false := by rw [beq_eq_false_iff_ne]; omega
  by_cases hi : 0 ≤ i
  · have hp : 0 ≤ i % n := Int.emod_nonneg _ (by omega)
    go_enter Try.func18, Try.ntmps18
    go_wp2
    go_ret
    exact ⟨rfl, rfl⟩
  · by_cases ht : i.tmod n < 0
    · have HT := hd (tmod_neg i n hn hn' ht)
      go_enter Try.func18, Try.ntmps18
      go_wp2
      go_ret
      exact ⟨congrArg (fun x => Ending.returned (Value.int .i64 x)) HT.out, rfl⟩
    · have HT := hd (tmod_pos i n hn (by omega))
      go_enter Try.func18, Try.ntmps18
      go_wp2
      go_ret
      exact ⟨congrArg (fun x => Ending.returned (Value.int .i64 x)) HT.out, rfl⟩

end Go.Proofs.Ytdhgdgcblgdefaa
