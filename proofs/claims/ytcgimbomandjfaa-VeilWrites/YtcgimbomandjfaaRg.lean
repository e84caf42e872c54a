/- The document's answer: U, S and Text. -/
import Derived.Test.YtcgimbomandjfaaRf
import Derived.Laws.IdiomStrings
namespace Go.Proofs.Ytcgimbomandjfaa
open Go.RowKit
set_option linter.unusedVariables false

theorem rrow_any (n : Int) (w : World) (h0 : 0 ≤ n) (h1 : n < 72057594037927936) :
    Calls Try.prog 52 #[.int .i64 n] w fun e w' => RowEnd w (Num.enc n) e w' := by
  rcases Num.sz_cases n h0 with h | h | h | h | h | h | h | h
  · rw [Num.enc1 n h.2]; exact rrow1 n w h0 h.2
  · rw [Num.enc2 n h.2.1 h.2.2]; exact rrow2 n w h.2.1 h.2.2
  · rw [Num.enc3 n h.2.1 h.2.2]; exact rrow3 n w h.2.1 h.2.2
  · rw [Num.enc4 n h.2.1 h.2.2]; exact rrow4 n w h.2.1 h.2.2
  · rw [Num.enc5 n h.2.1 h.2.2]; exact rrow5 n w h.2.1 h.2.2
  · rw [Num.enc6 n h.2.1 h.2.2]; exact rrow6 n w h.2.1 h.2.2
  · rw [Num.enc7 n h.2.1 h.2.2]; exact rrow7 n w h.2.1 h.2.2
  · rw [Num.enc8 n h.2]; exact rrow8 n w h.2 h1

/-- How 'row' ends: the bytes, in new memory, without spare room. -/
def RowMade (w : World) (l : List Int) (e : Ending) (w' : World) : Prop :=
  e = .returned (.slice (some ⟨w.heap.size, 0, none⟩) l.length l.length) ∧ Bs (fun b => w.heap.size ≤ b) w' (.slice (some ⟨w.heap.size, 0, none⟩) l.length l.length) l ∧ Below w.heap.size w w'

theorem rrow_made (n : Int) (w : World) (h0 : 0 ≤ n) (h1 : n < 72057594037927936) :
    Calls Try.prog 52 #[.int .i64 n] w fun e w' => RowMade w (Num.enc n) e w' := by
  refine (rrow_any n w h0 h1).mono ?_
  rintro e w' ⟨k, nq, rfl, rfl, rfl⟩
  have hl := Num.enc_length n
  have h8 := Num.sz_bd n h0
  exact ⟨rfl, (Bs.fresh0 w _ 5 _ (enc_byt n h0 h1) (by omega) (Nat.le_refl _) _ (Nat.le_refl _)).keep (S := fun _ => False) ((Kp.refl _ _).drewN nq) (fun _ _ _ h => h), below_drewN ((Below.refl _ _).alloc (Nat.le_refl _) _) nq⟩

set_option maxHeartbeats 400000 in
theorem rU_made (n : Int) (w : World) (h0 : 0 ≤ n) (h1 : n ≤ 9007199254740991) :
    Calls Try.prog 39 #[.int .i64 n] w fun e w' => MadeEnd w (Num.enc n) e w' := by
  go_enter Try.func39, Try.ntmps39
  go_wp2_with (go_at_call 52; refine (rrow_made _ _ (by omega) (by omega)).mono ?_; rintro e w1 ⟨rfl, hb, hk⟩; have HB := hd hb; have HK := hd hk; clear hb hk)
  go_ret2
  exact ⟨_, _, rfl, HB.out, HK.out⟩

set_option maxHeartbeats 400000 in
theorem rU_low (n : Int) (w : World) (h0 : n < 0) :
    Calls Try.prog 39 #[.int .i64 n] w fun e w' => e = .returned (.tuple #[.slice none 0 0, .int .i64 9]) ∧ w' = w := by
  go_enter Try.func39, Try.ntmps39
  go_wp2
  go_ret2
  exact ⟨rfl, rfl⟩

set_option maxHeartbeats 400000 in
theorem rU_high (n : Int) (w : World) (h0 : 9007199254740991 < n) :
    Calls Try.prog 39 #[.int .i64 n] w fun e w' => e = .returned (.tuple #[.slice none 0 0, .int .i64 9]) ∧ w' = w := by
  go_enter Try.func39, Try.ntmps39
  go_wp2
  go_ret2
  exact ⟨rfl, rfl⟩

/-- '[]byte(s)': the text's bytes in a new block. -/
theorem conv_str (s : ByteArray) (w : World) (hs : s.size ≤ 140737488355328) : ∃ v w', (convert 9 34 (.string s)).run Try.prog w = .ok v w' ∧ Bs (fun b => w.heap.size ≤ b) w' v (bytesOf s) ∧ Below w.heap.size w w' := by
  refine ⟨_, _, run_bytes_of_string w 9 34 5 s Try.underlying9 Try.underlying34 Try.underlying5, ?_, ((Below.refl _ _).drew).alloc (by simp) _⟩
  have hl := bytesOf_length s
  refine ⟨bytesOf_byt s, by omega, Or.inr ⟨w.heap.size, 0, _, by rw [hl], by rw [hl]; exact grownCap_ge w s.size 0 5, Nat.le_refl _, by simp, fun i hi => ?_⟩⟩
  rw [Nat.zero_add]
  have h := World.cell?_alloc_mark w.drew (bytesRow s (grownCap w s.size 0 5)) 5 ((bytesRow s (grownCap w s.size 0 5)).size, (bytesRow s (grownCap w s.size 0 5)).size + 1) i
  refine h.trans ?_
  have hi' : i < s.data.size := by rw [hl] at hi; exact hi
  unfold bytesRow bytesOf
  rw [Array.getElem?_append_left (by simpa using hi'), Array.getElem?_map, Array.getElem?_eq_getElem hi', List.getD_eq_getElem?_getD, List.getElem?_map, Array.getElem?_toList, Array.getElem?_eq_getElem hi']
  rfl

/-- An append onto a row without spare room. -/
theorem append_any {w : World} {ty N : Nat} {b off : Nat} {ld l : List Int} {x : Value} {tx : TypeId} (hN : N ≤ w.heap.size) (hd : Bs (fun b => N ≤ b) w (.slice (some ⟨b, off, none⟩) ld.length ld.length) ld)
    (hx : Src Try.prog 1 tx x l.length (l.map (Value.int .u8)) w) (hl : Byt l) (hb : ld.length + l.length ≤ 140737488355328) :
    ∃ a cap w', (Builtin.append_ #[34, tx] ty #[.slice (some ⟨b, off, none⟩) ld.length ld.length, x]).run Try.prog w = .ok (.slice a (ld ++ l).length cap) w' ∧ Bs (fun b => N ≤ b) w' (.slice a (ld ++ l).length cap) (ld ++ l) ∧ Below w.heap.size w w' := by
  by_cases h0 : 0 < l.length
  · obtain ⟨v', w1, hrun, r1, r2, r3⟩ := append_grow (ty := ty) Try.underlying34 i5 z5 s5 b5 hd hx hl h0 hb
    obtain ⟨a, cap, rfl⟩ := r1.len
    exact ⟨a, cap, w1, hrun, r1.weaken (fun k _ hk => by omega), r3⟩
  · have hn : l = [] := List.length_eq_zero_iff.1 (by omega)
    subst hn
    rw [List.append_nil]
    exact ⟨_, _, w, append_none (ty := ty) Try.underlying34 i5 s5 b off _ _ hx (Nat.le_refl _), hd, Below.refl _ _⟩

end Go.Proofs.Ytcgimbomandjfaa
