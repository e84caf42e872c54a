/- digits.Text: a text's bytes behind their number. -/
import Derived.Test.YtdjpdllgifdhaaaUS
import Derived.Test.YtdjpdllgifdhaaaCl
namespace Go.Proofs.Ytdjpdllgifdhaaa
open Go.RowKit
set_option linter.unusedVariables false

/-- A text's bytes. -/
def bytesOf (s : ByteArray) : List Int := s.data.toList.map fun b => (b.toNat : Int)

theorem bytesOf_length (s : ByteArray) : (bytesOf s).length = s.size := by
  unfold bytesOf; rw [List.length_map, Array.length_toList]; rfl

theorem bytesOf_byt (s : ByteArray) : Byt (bytesOf s) := by
  intro x hx
  obtain ⟨b, _, rfl⟩ := List.mem_map.1 hx
  have := b.toNat_lt
  omega

theorem enc_byt (n : Int) (h0 : 0 ≤ n) (h1 : n < 72057594037927936) : Byt (Num.enc n) := by
  unfold Num.enc
  repeat' split
  all_goals
    intro x hx
    simp only [List.mem_cons, List.not_mem_nil, or_false] at hx
    omega

theorem src_str {P : Program} {w : World} {t : TypeId} (hk : P.underlying t = some .string) (s : ByteArray) : Src P 1 t (.string s) (bytesOf s).length ((bytesOf s).map (Value.int .u8)) w := by
  have h := Src.ofString (P := P) w hk s
  have e : byteCells s = (bytesOf s).map (Value.int .u8) := by unfold byteCells bytesOf; rw [List.map_map]; rfl
  rw [e] at h
  rw [bytesOf_length]
  exact h

set_option maxHeartbeats 400000 in
theorem Text_much (s : ByteArray) (w : World) (h : 65535 < s.size) :
    Calls Try.prog 13 #[.string s] w fun e w' => e = .returned (.tuple #[.slice none 0 0, .int .i64 5]) ∧ w' = w := by
  have h' : (65535 : Int) < (s.size : Int) := by omega
  go_enter Try.func13, Try.ntmps13
  go_wp2
  go_ret2
  exact ⟨rfl, rfl⟩

set_option maxHeartbeats 400000 in
theorem Text_run (s : ByteArray) (w : World) (h : s.size ≤ 65535) (v' : Value) (w1 : World)
    (hrun : (Builtin.append_ #[22, 9] 22 #[.slice (some ⟨w.heap.size, 0, none⟩) (Num.enc s.size).length (Num.enc s.size).length, .string s]).run Try.prog (w.alloc (.cells (u8s (Num.enc s.size)) 5)).drew = .ok v' w1) :
    Calls Try.prog 13 #[.string s] w fun e w' => e = .returned (.tuple #[v', .int .i64 0]) ∧ w' = w1 := by
  have h' : (s.size : Int) ≤ 65535 := by omega
  have HR := hd hrun
  clear hrun
  go_enter Try.func13, Try.ntmps13
  go_wp2_with (first
    | (go_at_call 37; refine (write_any _ _ (by omega) (by omega)).mono ?_; rintro e w' ⟨rfl, rfl⟩)
    | (at_builtin; refine wpList_append_run _ rfl _ _ _ _ rfl _ _ rfl rfl v' w1 HR.out ?_))
  go_ret2
  exact ⟨rfl, rfl⟩

def MadeEnd (w : World) (l : List Int) (e : Ending) (w' : World) : Prop :=
  ∃ a cap, e = .returned (.tuple #[.slice a l.length cap, .int .i64 0]) ∧ Bs (fun b => w.heap.size ≤ b) w' (.slice a l.length cap) l ∧ Below w.heap.size w w'

theorem Text_ok (s : ByteArray) (w : World) (h : s.size ≤ 65535) :
    Calls Try.prog 13 #[.string s] w fun e w' => MadeEnd w (Num.enc s.size ++ bytesOf s) e w' := by
  have hb := enc_byt s.size (by omega) (by omega)
  have hl8 := Num.sz_bd s.size (by omega)
  have hel := Num.enc_length s.size
  have hd : Bs (fun b => w.heap.size ≤ b) (w.alloc (.cells (u8s (Num.enc s.size)) 5)).drew (.slice (some ⟨w.heap.size, 0, none⟩) (Num.enc s.size).length (Num.enc s.size).length) (Num.enc s.size) :=
    (Bs.fresh0 w _ 5 _ hb (by omega) (Nat.le_refl _) _ (Nat.le_refl _)).drew
  have hx := src_str (P := Try.prog) (w := (w.alloc (.cells (u8s (Num.enc s.size)) 5)).drew) (t := 9) Try.underlying9 s
  by_cases h0 : 0 < (bytesOf s).length
  · obtain ⟨v', w1, hrun, r1, r2, r3⟩ := append_grow (ty := 22) Try.underlying22 i5 z5 s5 b5 hd hx (bytesOf_byt s) h0 (by rw [bytesOf_length]; omega)
    refine (Text_run s w h v' w1 hrun).mono ?_
    rintro e w' ⟨rfl, rfl⟩
    obtain ⟨a, cap, rfl⟩ := r1.len
    refine ⟨a, cap, rfl, r1.weaken (fun k _ hk => ?_), ?_⟩
    · have : (w.alloc (.cells (u8s (Num.enc s.size)) 5)).drew.heap.size = w.heap.size + 1 := by simp
      omega
    · exact (((Below.refl _ _).alloc (Nat.le_refl _) _).drew).trans (r3.mono (by simp))
  · have hn : bytesOf s = [] := List.length_eq_zero_iff.1 (by omega)
    rw [hn] at hx
    refine (Text_run s w h _ _ (append_none (ty := 22) Try.underlying22 i5 s5 w.heap.size 0 _ _ hx (Nat.le_refl _))).mono ?_
    rintro e w' ⟨rfl, rfl⟩
    rw [hn, List.append_nil]
    exact ⟨_, _, rfl, hd, ((Below.refl _ _).alloc (Nat.le_refl _) _).drew⟩

end Go.Proofs.Ytdjpdllgifdhaaa
