/- strings.IndexRune of few bytes; strings.Cut at one byte. -/
import Derived.Test.YtcigbfjmnhogiabGreatDoorVa
import Derived.Laws.Runes
import Derived.Laws.RangeAny
import Derived.Laws.Strings3
import Derived.Lib.OthersKept
import Derived.LoopTactic
import Derived.Scope
import Derived.WalkMore
namespace Go.Proofs.YtcigbfjmnhogiabGreatDoor
open Go.RowKit
set_option linter.unusedVariables false

theorem run74 (s : ByteArray) (c : Int) (w : World) : (callFunc 53 #[.string s, .int .u8 c]).run Tryz.prog w = .ok (.value (.int .i64 (firstIdx s c.toNat.toUInt8))) w := by
  rw [run_callFunc_extern Tryz.func53 (by kernel_rfl) (by kernel_rfl) (by kernel_rfl) (e := Extern.BytealgIndexByte.indexByte) (by kernel_rfl), run_indexByte_string]
  rfl

set_option maxHeartbeats 400000 in
theorem idxb (s : ByteArray) (c k : Int) (w : World) (h : firstIdx s c.toNat.toUInt8 = k) :
    Calls Tryz.prog 37 #[.string s, .int .u8 c] w fun e w' => e = .returned (.int .i64 k) ∧ w' = w := by
  have hrun := run74 s c w
  rw [h] at hrun
  clear h
  go_enter Tryz.func37, Tryz.ntmps37
  go_wp2
  go_ret
  exact ⟨rfl, rfl⟩

set_option maxHeartbeats 400000 in
theorem sidxb (s : ByteArray) (c k : Int) (w : World) (h : firstIdx s c.toNat.toUInt8 = k) :
    Calls Tryz.prog 17 #[.string s, .int .u8 c] w fun e w' => e = .returned (.int .i64 k) ∧ w' = w := by
  have H := hd h
  clear h
  go_enter Tryz.func17, Tryz.ntmps17
  go_wp2_with (go_at_call 37; refine (idxb _ _ k _ H.out).mono ?_; rintro e w' ⟨rfl, rfl⟩)
  go_ret
  exact ⟨rfl, rfl⟩

set_option maxRecDepth 100000 in
set_option maxHeartbeats 400000 in
theorem irune_low (s : ByteArray) (r k : Int) (w : World) (h0 : 0 ≤ r) (h1 : r < 128) (h : firstIdx s r.toNat.toUInt8 = k) :
    Calls Tryz.prog 110 #[.string s, .int .i32 r] w fun e w' => e = .returned (.int .i64 k) ∧ w' = w := by
  have H := hd h
  clear h
  go_enter Tryz.func110, Tryz.ntmps110
  go_wp2_with (go_at_call 17; refine (sidxb _ _ k _ H.out).mono ?_; rintro e w' ⟨rfl, rfl⟩)
  go_ret
  exact ⟨rfl, rfl⟩

set_option maxHeartbeats 400000 in
theorem valid_any (r : Int) (w : World) : Calls Tryz.prog 116 #[.int .i32 r] w fun e w' => e = .returned (.bool (validRune r)) ∧ w' = w := by
  obtain ⟨v, hv⟩ : ∃ v, validRune r = v := ⟨_, rfl⟩
  rw [hv]
  have HV := hd hv
  clear hv
  by_cases h1 : 0 ≤ r ∧ r < 55296
  · obtain ⟨h1, h2⟩ := h1
    go_enter Tryz.func116, Tryz.ntmps116
    go_wp2
    go_ret
    exact ⟨by rw [← HV.out]; simp [validRune, h1, h2], rfl⟩
  · by_cases h2 : 57343 < r ∧ r ≤ 1114111
    · obtain ⟨h3, h4⟩ := h2
      have h5 : ¬ r < 55296 := by omega
      go_enter Tryz.func116, Tryz.ntmps116
      go_wp2
      go_ret
      exact ⟨by rw [← HV.out]; simp [validRune, h3, h4], rfl⟩
    · have h3 : validRune r = false := by simp [validRune]; omega
      by_cases h5 : 0 ≤ r
      · have h6 : ¬ r < 55296 := by omega
        by_cases h7 : 57343 < r
        · have h8 : ¬ r ≤ 1114111 := by omega
          go_enter Tryz.func116, Tryz.ntmps116
          go_wp2
          go_ret
          exact ⟨by rw [← HV.out, h3]; rfl, rfl⟩
        · go_enter Tryz.func116, Tryz.ntmps116
          go_wp2
          go_ret
          exact ⟨by rw [← HV.out, h3]; rfl, rfl⟩
      · have h7 : ¬ 57343 < r := by omega
        go_enter Tryz.func116, Tryz.ntmps116
        go_wp2
        go_ret
        exact ⟨by rw [← HV.out, h3]; rfl, rfl⟩

theorem below_iter (w : World) (s : ByteArray) (pos : Nat) : Below w.heap.size w (w.iter s pos) := below1 w _

set_option maxRecDepth 100000 in
set_option maxHeartbeats 1000000 in
/-- No error's rune among bytes below 128. -/
theorem irune_err (s : ByteArray) (w : World) (hs : ∀ b ∈ s.data.toList, b.toNat < 128) :
    Calls Tryz.prog 110 #[.string s, .int .i32 65533] w fun e w' => VEnd w (.int .i64 (-1)) e w' := by
  have HS := hd hs
  clear hs
  go_enter Tryz.func110, Tryz.ntmps110
  go_wp2_with fail
  go_loopw [] (fun wr => ∃ pos, wr = w.iter s pos) (fun wr => s.size - wr.iterPos w.heap.size)
  case atStart => exact ⟨0, rfl⟩
  case round =>
    obtain ⟨pos, rfl⟩ := hrel
    by_cases hp : pos < s.size
    · have ha : (s[pos]'hp).toNat < 128 := HS.out _ (Array.getElem_mem_toList (xs := s.data) hp)
      have hnx : ∀ ty, (Instr.next (.pointer (some ⟨w.heap.size, 0, none⟩)) true ty).run Tryz.prog (w.iter s pos) = _ := fun ty => run_next_ascii w s pos ty hp ha
      generalize (s[pos]'hp).toNat = c at *
      have hc : ¬ ((c : Nat) : Int) = 65533 := by omega
      have hc' : (((c : Nat) : Int) == 65533) = false := by rw [beq_eq_false_iff_ne]; exact hc
      go_wp2_with fail
      go_roundw
      case rel => exact ⟨pos + 1, rfl⟩
      case measure => simp; omega
    · have hnx : ∀ ty, (Instr.next (.pointer (some ⟨w.heap.size, 0, none⟩)) true ty).run Tryz.prog (w.iter s pos) = _ := fun ty => run_next_end w s pos ty hp
      go_wp2_with fail
      go_ret
      exact VEnd.mk (below_iter _ _ _)

set_option maxRecDepth 100000 in
set_option maxHeartbeats 1000000 in
theorem irune_no (s : ByteArray) (r : Int) (w : World) (h128 : 128 ≤ r) (hne : r ≠ 65533) (hv : validRune r = false) :
    Calls Tryz.prog 110 #[.string s, .int .i32 r] w fun e w' => VEnd w (.int .i64 (-1)) e w' := by
  have h1 : ¬ r < 128 := by omega
  have h2 : (r == 65533) = false := by rw [beq_eq_false_iff_ne]; exact hne
  have HV := hd hv
  clear hv
  go_enter Tryz.func110, Tryz.ntmps110
  go_wp2_with (go_at_call 116; refine (valid_any _ _).mono ?_; rintro e w' ⟨rfl, rfl⟩; rw [HV.out])
  go_ret
  exact VEnd.mk (Below.refl _ _)

set_option maxRecDepth 100000 in
set_option maxHeartbeats 1000000 in
theorem irune_yes (s : ByteArray) (r : Int) (w : World) (h128 : 128 ≤ r) (hne : r ≠ 65533) (hv : validRune r = true) (hs : ∀ b ∈ s.data.toList, b.toNat < 128) (h8 : 8 ≤ s.size) (h16 : s.size ≤ 16) :
    Calls Tryz.prog 110 #[.string s, .int .i32 r] w fun e w' => VEnd w (.int .i64 (-1)) e w' := by
  have h1 : ¬ r < 128 := by omega
  have h2 : (r == 65533) = false := by rw [beq_eq_false_iff_ne]; exact hne
  have HV := hd hv
  obtain ⟨e1, e2, e3⟩ := encode_facts r (by rw [validRune_eq]; exact hv) h128
  generalize hx : Utf8.encode r = x at *
  have hw : ∀ w, (convert 21 9 (.int .i32 r)).run Tryz.prog w = .ok (.string x) w := fun w => by rw [← hx]; exact run_convert_int_string w 21 9 .i32 r (by kernel_rfl) (by kernel_rfl)
  clear hv hx
  go_enter Tryz.func110, Tryz.ntmps110
  go_wp2_with (go_at_call 116; refine (valid_any _ _).mono ?_; rintro e w' ⟨rfl, rfl⟩; rw [HV.out])
  go_step3
  obtain ⟨l, hl⟩ : ∃ l, x.size = l + 1 := ⟨x.size - 1, by omega⟩
  obtain ⟨m, hm⟩ : ∃ m, s.size = m := ⟨_, rfl⟩
  have hlx : l < x.size := by omega
  have hls : l < s.size := by omega
  have k1 : (l : Int) < (m : Int) := by omega
  have k2 : 1 ≤ l := by omega
  have k6 : (l : Int) < (l : Int) + 1 := by omega
  have k3 : l ≤ 3 := by omega
  have k4 : 8 ≤ m := by omega
  have k5 : m ≤ 16 := by omega
  have q1 : 128 ≤ (x[l]'hlx).toNat := by
    have := e3 (by omega)
    simpa [hl] using this
  have q2 : (s[l]'hls).toNat < 128 := hs _ (Array.getElem_mem_toList (xs := s.data) hls)
  have k9 : (((s[l]'hls).toNat : Int) == ((x[l]'hlx).toNat : Int)) = false := by rw [beq_eq_false_iff_ne]; omega
  have k10 : (((s[l]'hls).toNat : Int) != ((x[l]'hlx).toNat : Int)) = true := by rw [bne_iff_ne]; omega
  clear e1 e2 e3 h8 h16
  go_wp2_with fail
  refine wp_loop_rounds 1 ?_
  rw [rounds_succ]
  go_wp2_with fail
  go_step3
  go_wp2_with fail
  go_region
  go_wp2_with fail
  obtain ⟨j, hj⟩ : ∃ j, l + 1 = j := ⟨_, rfl⟩
  have kw : IntKind.i64.wrap ((l : Int) + 1) = (j : Int) := by rw [wrap_small _ (by omega) (by omega)]; omega
  have k7 : (0 : Int) ≤ (j : Int) := by omega
  have k8 : (j : Int) ≤ (m : Int) := by omega
  have q3 := firstIdx_ascii s j m (x[l]'hlx) hs q1
  have Q3 : Hid (firstIdx (s.extract j m) ((x[l]'hlx).toNat : Int).toNat.toUInt8 = -1) := hd (by rw [← q3]; congr 1; simp)
  clear hj q3
  go_region_held3 (fun _ => True) (trivial) (first | (go_at_call 17; refine (sidxb _ _ (-1) _ Q3.out).mono ?_; rintro e w' ⟨rfl, rfl⟩) | fail)
  go_wp2_with fail
  trace_state
  rw [Exit.noGoto_ret]
  go_ret
  exact VEnd.mk (Below.refl _ _).drew.drew

set_option maxRecDepth 100000 in
set_option maxHeartbeats 1000000 in
theorem index1 (s : ByteArray) (k : Int) (w : World) (h : firstIdx s 58 = k) :
    Calls Tryz.prog 54 #[.string s, .string ⟨#[58]⟩] w fun e w' => e = .returned (.int .i64 k) ∧ w' = w := by
  by_cases hs : (⟨#[58]⟩ : ByteArray) = s
  · subst hs
    have hk : k = 0 := by rw [← h]; decide +kernel
    subst hk
    clear h
    go_enter Tryz.func54, Tryz.ntmps54
    go_wp2_with fail
    go_ret
    exact ⟨rfl, rfl⟩
  · have H := hd h
    have hb : (([58] : List UInt8) == s.toList) = false := by
      rw [beq_eq_false_iff_ne]
      intro e
      apply hs
      rw [ByteArray.toList_eq] at e
      obtain ⟨⟨d⟩⟩ := s
      simp at e
      rw [← e]
    clear h hs
    go_enter Tryz.func54, Tryz.ntmps54
    go_wp2_with fail
    refine (idxb s 58 k _ H.out).mono ?_
    rintro e w' ⟨rfl, rfl⟩
    go_wp2_with fail
    go_ret
    exact ⟨rfl, rfl⟩

set_option maxRecDepth 100000 in
set_option maxHeartbeats 1000000 in
theorem lcut_miss (s : ByteArray) (w : World) (h : firstIdx s 58 = -1) :
    Calls Tryz.prog 38 #[.string s, .string ⟨#[58]⟩] w fun e w' => e = .returned (.tuple #[.string s, .string ⟨#[]⟩, .bool false]) ∧ ∃ n, w' = w.drewN n := by
  have H := hd h
  clear h
  go_enter Tryz.func38, Tryz.ntmps38
  go_wp2_with fail
  refine (index1 s (-1) _ H.out).mono ?_
  rintro e w' ⟨rfl, rfl⟩
  go_wp2_with fail
  go_ret3
  exact ⟨rfl, 0, rfl⟩

set_option maxRecDepth 100000 in
set_option maxHeartbeats 1000000 in
theorem lcut_hit (s : ByteArray) (i j n : Nat) (w : World) (hj : i + 1 = j) (h : firstIdx s 58 = (i : Int)) (hn : s.size = n) (hi : i < n) (hb : n ≤ 140737488355328) :
    Calls Tryz.prog 38 #[.string s, .string ⟨#[58]⟩] w fun e w' => e = .returned (.tuple #[.string (s.extract 0 i), .string (s.extract j n), .bool true]) ∧ ∃ n, w' = w.drewN n := by
  have H := hd h
  clear h
  have c0 : (0 : Int) ≤ (i : Int) := by omega
  have c1 : (i : Int) ≤ (n : Int) := by omega
  have c2 : IntKind.i64.wrap ((i : Int) + 1) = (j : Int) := by rw [wrap_small _ (by omega) (by omega)]; omega
  have c3 : (0 : Int) ≤ (j : Int) := by omega
  have c4 : (j : Int) ≤ (n : Int) := by omega
  clear hj hi
  go_enter Tryz.func38, Tryz.ntmps38
  go_wp2_with fail
  refine (index1 s i _ H.out).mono ?_
  rintro e w' ⟨rfl, rfl⟩
  go_wp2_with fail
  go_region
  go_wp2_with fail
  go_ret3
  exact ⟨rfl, 1, rfl⟩

set_option maxHeartbeats 400000 in
theorem cut_miss (s : ByteArray) (w : World) (h : firstIdx s 58 = -1) :
    Calls Tryz.prog 18 #[.string s, .string ⟨#[58]⟩] w fun e w' => e = .returned (.tuple #[.string s, .string ⟨#[]⟩, .bool false]) ∧ ∃ n, w' = w.drewN n := by
  have H := hd h
  clear h
  go_enter Tryz.func18, Tryz.ntmps18
  go_wp2_with (go_at_call 38; refine (lcut_miss _ _ H.out).mono ?_; rintro e w' ⟨rfl, n, rfl⟩)
  go_ret3
  exact ⟨rfl, n, rfl⟩

set_option maxHeartbeats 400000 in
theorem cut_hit (s : ByteArray) (i j n : Nat) (w : World) (hj : i + 1 = j) (h : firstIdx s 58 = (i : Int)) (hn : s.size = n) (hi : i < n) (hb : n ≤ 140737488355328) :
    Calls Tryz.prog 18 #[.string s, .string ⟨#[58]⟩] w fun e w' => e = .returned (.tuple #[.string (s.extract 0 i), .string (s.extract j n), .bool true]) ∧ ∃ n, w' = w.drewN n := by
  have H := hd (lcut_hit s i j n · hj h hn hi hb)
  clear h hj hn hi hb
  go_enter Tryz.func18, Tryz.ntmps18
  go_wp2_with (go_at_call 38; refine (H.out _).mono ?_; rintro e w' ⟨rfl, n, rfl⟩)
  go_ret3
  exact ⟨rfl, n, rfl⟩

end Go.Proofs.YtcigbfjmnhogiabGreatDoor
