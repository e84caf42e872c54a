/- The document: U, S, Text, New, Fail, Left. -/
import Derived.Test.YteifaipbckhoiaaRf
import Derived.Test.YteifaipbckhoiaaMd
import Derived.Laws.IdiomStrings
import Derived.Deep.QuietTactic
import Derived.BigQuiet
namespace Go.Proofs.Yteifaipbckhoiaa
open Go.RowKit
set_option linter.unusedVariables false

section
theorem rrow_any (n : Int) (w : World) (h0 : 0 ≤ n) (h1 : n < 72057594037927936) :
    Calls Try.prog 85 #[.int .i64 n] w fun e w' => RowEnd w (Num.enc n) e w' := by
  rcases Num.sz_cases n h0 with h | h | h | h | h | h | h | h
  · rw [Num.enc1 n h.2]; exact rrow1 n w h0 h.2
  · rw [Num.enc2 n h.2.1 h.2.2]; exact rrow2 n w h.2.1 h.2.2
  · rw [Num.enc3 n h.2.1 h.2.2]; exact rrow3 n w h.2.1 h.2.2
  · rw [Num.enc4 n h.2.1 h.2.2]; exact rrow4 n w h.2.1 h.2.2
  · rw [Num.enc5 n h.2.1 h.2.2]; exact rrow5 n w h.2.1 h.2.2
  · rw [Num.enc6 n h.2.1 h.2.2]; exact rrow6 n w h.2.1 h.2.2
  · rw [Num.enc7 n h.2.1 h.2.2]; exact rrow7 n w h.2.1 h.2.2
  · rw [Num.enc8 n h.2]; exact rrow8 n w h.2 h1

/-- How 'row' ends: the bytes, in new memory, without spare room. -/
def RowMade (w : World) (l : List Int) (e : Ending) (w' : World) : Prop :=
  e = .returned (.slice (some ⟨w.heap.size, 0, none⟩) l.length l.length) ∧ Bs (fun b => w.heap.size ≤ b) w' (.slice (some ⟨w.heap.size, 0, none⟩) l.length l.length) l ∧ Below w.heap.size w w'

theorem rrow_made (n : Int) (w : World) (h0 : 0 ≤ n) (h1 : n < 72057594037927936) :
    Calls Try.prog 85 #[.int .i64 n] w fun e w' => RowMade w (Num.enc n) e w' := by
  refine (rrow_any n w h0 h1).mono ?_
  rintro e w' ⟨k, nq, rfl, rfl, rfl⟩
  have hl := Num.enc_length n
  have h8 := Num.sz_bd n h0
  exact ⟨rfl, (Bs.fresh0 w _ 5 _ (enc_byt n h0 h1) (by omega) (Nat.le_refl _) _ (Nat.le_refl _)).keep (S := fun _ => False) ((Kp.refl _ _).drewN nq) (fun _ _ _ h => h), below_drewN ((Below.refl _ _).alloc (Nat.le_refl _) _) nq⟩

set_option maxHeartbeats 400000 in
theorem rU_made (n : Int) (w : World) (h0 : 0 ≤ n) (h1 : n ≤ 9007199254740991) :
    Calls Try.prog 84 #[.int .i64 n] w fun e w' => MadeEnd w (Num.enc n) e w' := by
  go_enter Try.func84, Try.ntmps84
  go_wp2_with (go_at_call 85; refine (rrow_made _ _ (by omega) (by omega)).mono ?_; rintro e w1 ⟨rfl, hb, hk⟩; have HB := hd hb; have HK := hd hk; clear hb hk)
  go_ret2
  exact ⟨_, _, rfl, HB.out, HK.out⟩

set_option maxHeartbeats 400000 in
theorem rU_low (n : Int) (w : World) (h0 : n < 0) :
    Calls Try.prog 84 #[.int .i64 n] w fun e w' => e = .returned (.tuple #[.slice none 0 0, .int .i64 9]) ∧ w' = w := by
  go_enter Try.func84, Try.ntmps84
  go_wp2
  go_ret2
  exact ⟨rfl, rfl⟩

set_option maxHeartbeats 400000 in
theorem rU_high (n : Int) (w : World) (h0 : 9007199254740991 < n) :
    Calls Try.prog 84 #[.int .i64 n] w fun e w' => e = .returned (.tuple #[.slice none 0 0, .int .i64 9]) ∧ w' = w := by
  go_enter Try.func84, Try.ntmps84
  go_wp2
  go_ret2
  exact ⟨rfl, rfl⟩

set_option maxHeartbeats 400000 in
theorem rS_neg (n : Int) (w : World) (h0 : -9007199254740991 ≤ n) (h1 : n < 0) :
    Calls Try.prog 105 #[.int .i64 n] w fun e w' => MadeEnd w (Num.enc (-2 * n - 1)) e w' := by
  go_enter Try.func105, Try.ntmps105
  go_wp2_with (go_at_call 85; refine (rrow_made _ _ (by omega) (by omega)).mono ?_; rintro e w1 ⟨rfl, hb, hk⟩; have HB := hd hb; have HK := hd hk; clear hb hk)
  go_ret2
  exact ⟨_, _, rfl, HB.out, HK.out⟩

set_option maxHeartbeats 400000 in
theorem rS_pos (n : Int) (w : World) (h0 : 0 ≤ n) (h1 : n ≤ 9007199254740991) :
    Calls Try.prog 105 #[.int .i64 n] w fun e w' => MadeEnd w (Num.enc (2 * n)) e w' := by
  go_enter Try.func105, Try.ntmps105
  go_wp2_with (go_at_call 85; refine (rrow_made _ _ (by omega) (by omega)).mono ?_; rintro e w1 ⟨rfl, hb, hk⟩; have HB := hd hb; have HK := hd hk; clear hb hk)
  go_ret2
  exact ⟨_, _, rfl, HB.out, HK.out⟩

theorem rS_made (n : Int) (w : World) (h0 : -9007199254740991 ≤ n) (h1 : n ≤ 9007199254740991) :
    Calls Try.prog 105 #[.int .i64 n] w fun e w' => MadeEnd w (Num.enc (foldI n)) e w' := by
  unfold foldI
  by_cases h : n < 0
  · rw [if_pos h]; exact rS_neg n w h0 h
  · rw [if_neg h]; exact rS_pos n w (by omega) h1

set_option maxHeartbeats 400000 in
theorem rS_low (n : Int) (w : World) (h0 : n < -9007199254740991) :
    Calls Try.prog 105 #[.int .i64 n] w fun e w' => e = .returned (.tuple #[.slice none 0 0, .int .i64 9]) ∧ w' = w := by
  go_enter Try.func105, Try.ntmps105
  go_wp2
  go_ret2
  exact ⟨rfl, rfl⟩

set_option maxHeartbeats 400000 in
theorem rS_high (n : Int) (w : World) (h0 : 9007199254740991 < n) :
    Calls Try.prog 105 #[.int .i64 n] w fun e w' => e = .returned (.tuple #[.slice none 0 0, .int .i64 9]) ∧ w' = w := by
  go_enter Try.func105, Try.ntmps105
  go_wp2
  go_ret2
  exact ⟨rfl, rfl⟩

/-- '[]byte(s)': the text's bytes in a new block. -/
theorem conv_str (s : ByteArray) (w : World) (hs : s.size ≤ 140737488355328) : ∃ v w', (convert 9 26 (.string s)).run Try.prog w = .ok v w' ∧ Bs (fun b => w.heap.size ≤ b) w' v (bytesOf s) ∧ Below w.heap.size w w' := by
  refine ⟨_, _, run_bytes_of_string w 9 26 5 s Try.underlying9 Try.underlying26 Try.underlying5, ?_, ((Below.refl _ _).drew).alloc (by simp) _⟩
  have hl := bytesOf_length s
  refine ⟨bytesOf_byt s, by omega, Or.inr ⟨w.heap.size, 0, _, by rw [hl], by rw [hl]; exact grownCap_ge w s.size 0 5, Nat.le_refl _, by simp, fun i hi => ?_⟩⟩
  rw [Nat.zero_add]
  have h := World.cell?_alloc_mark w.drew (bytesRow s (grownCap w s.size 0 5)) 5 ((bytesRow s (grownCap w s.size 0 5)).size, (bytesRow s (grownCap w s.size 0 5)).size + 1) i
  refine h.trans ?_
  have hi' : i < s.data.size := by rw [hl] at hi; exact hi
  unfold bytesRow bytesOf
  rw [Array.getElem?_append_left (by simpa using hi'), Array.getElem?_map, Array.getElem?_eq_getElem hi', List.getD_eq_getElem?_getD, List.getElem?_map, Array.getElem?_toList, Array.getElem?_eq_getElem hi']
  rfl

/-- An append onto a row without spare room. -/
theorem append_any {w : World} {ty N : Nat} {b off : Nat} {ld l : List Int} {x : Value} {tx : TypeId} (hN : N ≤ w.heap.size) (hd : Bs (fun b => N ≤ b) w (.slice (some ⟨b, off, none⟩) ld.length ld.length) ld)
    (hx : Src Try.prog 1 tx x l.length (l.map (Value.int .u8)) w) (hl : Byt l) (hb : ld.length + l.length ≤ 140737488355328) :
    ∃ a cap w', (Builtin.append_ #[26, tx] ty #[.slice (some ⟨b, off, none⟩) ld.length ld.length, x]).run Try.prog w = .ok (.slice a (ld ++ l).length cap) w' ∧ Bs (fun b => N ≤ b) w' (.slice a (ld ++ l).length cap) (ld ++ l) ∧ Below w.heap.size w w' := by
  by_cases h0 : 0 < l.length
  · obtain ⟨v', w1, hrun, r1, r2, r3⟩ := append_grow (ty := ty) Try.underlying26 i5 z5 s5 b5 hd hx hl h0 hb
    obtain ⟨a, cap, rfl⟩ := r1.len
    exact ⟨a, cap, w1, hrun, r1.weaken (fun k _ hk => by omega), r3⟩
  · have hn : l = [] := List.length_eq_zero_iff.1 (by omega)
    subst hn
    rw [List.append_nil]
    exact ⟨_, _, w, append_none (ty := ty) Try.underlying26 i5 s5 b off _ _ hx (Nat.le_refl _), hd, Below.refl _ _⟩

set_option maxHeartbeats 400000 in
theorem rText_much (s : ByteArray) (w : World) (h : 65535 < s.size) :
    Calls Try.prog 61 #[.string s] w fun e w' => e = .returned (.tuple #[.slice none 0 0, .int .i64 5]) ∧ w' = w := by
  have h' : (65535 : Int) < (s.size : Int) := by omega
  go_enter Try.func61, Try.ntmps61
  go_wp2
  go_ret2
  exact ⟨rfl, rfl⟩

set_option maxHeartbeats 1000000 in
theorem rText_ok (s : ByteArray) (w : World) (h : s.size ≤ 65535) :
    Calls Try.prog 61 #[.string s] w fun e w' => MadeEnd w (Num.enc s.size ++ bytesOf s) e w' := by
  have h' : (s.size : Int) ≤ 65535 := by omega
  have HL := hd (And.intro (Num.enc_length s.size) (Num.sz_bd s.size (by omega)))
  have HBL := hd (bytesOf_length s)
  go_enter Try.func61, Try.ntmps61
  go_wp2_with fail
  refine (rrow_made _ _ (by omega) (by omega)).mono ?_
  rintro e w1 ⟨rfl, hb, hk⟩
  obtain ⟨v, w2, hcv, hb2, hk2⟩ := conv_str s w1 (by omega)
  obtain ⟨a2, c2, rfl⟩ := hb2.len
  have hsrc := src_bs (P := Try.prog) (t := 26) Try.underlying26 hb2
  obtain ⟨a3, c3, w3, hrun, hb3, hk3⟩ := append_any (ty := 26) (N := w.heap.size) (Nat.le_trans hk.size hk2.size) (hb.keepB hk2) hsrc hb2.1 (by have := HL.out; have := HBL.out; omega)
  obtain ⟨kk, hkk⟩ : ∃ kk, (Num.enc s.size ++ bytesOf s).length = kk := ⟨_, rfl⟩
  rw [hkk] at hrun hb3
  have HKK := hd hkk
  have HR := hd hrun
  have HB3 := hd hb3
  have HK3 := hd (below_below (below_below hk hk2) hk3)
  clear hb hk hb2 hk2 hsrc hrun hb3 hk3 hkk
  go_wp2_with (at_builtin; refine wpList_append_run _ rfl _ _ _ _ rfl _ _ rfl rfl _ w3 HR.out ?_)
  go_ret2
  refine ⟨a3, c3, ?_, ?_, HK3.out⟩
  · rw [HKK.out]; rfl
  · rw [HKK.out]; exact HB3.out
end

section
set_option maxHeartbeats 400000 in
theorem copy_run (v v' : Value) (w w1 : World) (hrun : (Builtin.append_ #[26, 26] 26 #[.slice none 0 0, v]).run Try.prog w = .ok v' w1) :
    Calls Try.prog 20 #[v] w fun e w' => e = .returned v' ∧ w' = w1 := by
  have HR := hd hrun
  clear hrun
  go_enter Try.func20, Try.ntmps20
  go_wp2_with (at_builtin; refine wpList_append_run _ rfl _ _ _ _ rfl _ _ rfl rfl v' w1 HR.out ?_)
  go_ret
  exact ⟨rfl, rfl⟩

/-- An append of nothing onto nil. -/
theorem append_nil_none {P : Program} {w : World} {t tx ty e : TypeId} {i : TypeInfo} (ht : P.underlying t = some (.slice e)) (hi : P.info? e = some i) {x : Value} (hx : Src P i.size tx x 0 [] w) :
    (Builtin.append_ #[t, tx] ty #[.slice none 0 0, x]).run P w = .ok (.slice none 0 0) w := by
  rcases hx.kind with ⟨e', hk⟩ | hk <;> simp [Builtin.append_, run_underlying ht, run_underlying hk, sizeOf, typeInfo, hi, hx.len, hx.cells]

theorem copy_bs {A : Nat → Prop} {w : World} {v : Value} {l : List Int} (h : Bs A w v l) :
    Calls Try.prog 20 #[v] w fun e w' => CloneEnd w l e w' := by
  have hsrc := src_bs (P := Try.prog) (t := 26) Try.underlying26 h
  by_cases h0 : 0 < l.length
  · obtain ⟨v', w1, hrun, r1, r2, r3⟩ := append_grow (ty := 26) (ld := []) (a := none) Try.underlying26 i5 z5 s5 b5 (Bs.ofNil A w) hsrc h.1 h0 (by have := h.2.1; simpa using this)
    refine (copy_run v v' w w1 hrun).mono ?_
    rintro e w' ⟨rfl, rfl⟩
    obtain ⟨a, cap, rfl⟩ := r1.len
    exact ⟨a, cap, rfl, r1, r2, r3⟩
  · have hl : l = [] := List.length_eq_zero_iff.1 (by omega)
    subst hl
    refine (copy_run v _ w _ (append_nil_none (ty := 26) Try.underlying26 i5 (by rw [s5]; exact hsrc))).mono ?_
    rintro e w' ⟨rfl, rfl⟩
    exact ⟨none, 0, rfl, Bs.ofNil _ _, Fr.ofNil _ _ _ _, Below.refl _ _⟩

theorem copy_emp (w : World) (x : Addr) (cap : Nat) :
    Calls Try.prog 20 #[.slice (some x) 0 cap] w fun e w' => CloneEnd w [] e w' := by
  have hsrc : Src Try.prog 1 26 (.slice (some x) 0 cap) 0 [] w :=
    Src.ofSlice _ Try.underlying26 x 0 cap [] (by simp) (fun j u hj => by simp at hj) (fun u hu => by cases hu)
  refine (copy_run _ _ w _ (append_nil_none (ty := 26) Try.underlying26 i5 (by rw [s5]; exact hsrc))).mono ?_
  rintro e w' ⟨rfl, rfl⟩
  exact ⟨none, 0, rfl, Bs.ofNil _ _, Fr.ofNil _ _ _ _, Below.refl _ _⟩

theorem copy_bx {N : Nat} {w : World} {v : Value} {l : List Int} (h : Bx N w v l) : Calls Try.prog 20 #[v] w fun e w' => CloneEnd w l e w' := by
  rcases h with h | ⟨rfl, x, cap, rfl⟩
  · exact copy_bs h
  · exact copy_emp w x cap

/-- The block xb is the document's reader, with the bytes l and the error e. -/
structure Rx (XB : Nat) (w : World) (xb : Nat) (l : List Int) (e : Int) : Prop where
  lt : xb < w.heap.size
  left : ∃ v, w.cell? ⟨xb, 0, none⟩ = some v ∧ Bs (fun b => XB ≤ b ∧ b < xb) w v l
  err : w.cell? ⟨xb, 1, none⟩ = some (.int .i64 e)
  free0 : w.frozen? ⟨xb, 0, none⟩ = false
  free1 : w.frozen? ⟨xb, 1, none⟩ = false

def NewX (w : World) (l : List Int) (e : Ending) (w' : World) : Prop :=
  ∃ xb, e = .returned (.pointer (some ⟨xb, 0, none⟩)) ∧ w.heap.size ≤ xb ∧ Rx w.heap.size w' xb l 0 ∧ Below w.heap.size w w'

set_option maxHeartbeats 400000 in
theorem NewX_of {w : World} {v : Value} {l : List Int} (h : Calls Try.prog 20 #[v] w fun e w' => CloneEnd w l e w') :
    Calls Try.prog 43 #[v] w fun e w' => NewX w l e w' := by
  have H : Hid (Calls Try.prog 20 #[v] w fun e w' => CloneEnd w l e w') := h
  clear h
  go_enter Try.func43, Try.ntmps43
  go_wp2_with (go_at_call 20; refine (H.out).mono ?_; rintro e w1 ⟨a, cap, rfl, hb, hf, hk⟩)
  go_ret
  refine ⟨w1.heap.size, rfl, hk.size, ?_, hk.alloc hk.size _⟩
  refine ⟨by simp, ⟨_, by simp; rfl, ?_⟩, by simp, by simp, by simp⟩
  obtain ⟨h1, h2, h3⟩ := hb
  refine ⟨h1, h2, ?_⟩
  rcases h3 with h3 | ⟨b, off, c, hv, hc, ha, hlt, hcell⟩
  · exact Or.inl h3
  · refine Or.inr ⟨b, off, c, hv, hc, ⟨ha, hlt⟩, by simp; omega, fun i hi => ?_⟩
    rw [World.cell?_alloc_past (w := w1) _ _ _ hlt]
    exact hcell i hi

variable {XB : Nat}

theorem Rx.keepB {w w' : World} {xb : Nat} {l : List Int} {e : Int} (h : Rx XB w xb l e) (k : Below w.heap.size w w') : Rx XB w' xb l e := by
  obtain ⟨h0, ⟨v, h2, h3⟩, h4, h5, h6⟩ := h
  exact ⟨Nat.lt_of_lt_of_le h0 k.size, ⟨v, (k.cell (p := ⟨xb, 0, none⟩) h0).trans h2, h3.keepB k⟩, (k.cell (p := ⟨xb, 1, none⟩) h0).trans h4, (k.frozen (p := ⟨xb, 0, none⟩) h0).trans h5, (k.frozen (p := ⟨xb, 1, none⟩) h0).trans h6⟩

theorem Rx.keepO {w w' : World} {xb rb : Nat} {l : List Int} {e : Int} (h : Rx XB w xb l e) (k : Kp (fun b => b = rb) w w') (hd : rb < XB ∨ xb < rb) (hle : XB ≤ xb) : Rx XB w' xb l e := by
  obtain ⟨h0, ⟨v, h2, h3⟩, h4, h5, h6⟩ := h
  have hn : ¬ xb = rb := by omega
  exact ⟨Nat.lt_of_lt_of_le h0 k.size, ⟨v, (k.cell (p := ⟨xb, 0, none⟩) h0 hn).trans h2, h3.keep k (fun b _ hb hb' => by have h' : b = rb := hb'; omega)⟩, (k.cell (p := ⟨xb, 1, none⟩) h0 hn).trans h4, (k.frozen (p := ⟨xb, 0, none⟩) h0 hn).trans h5, (k.frozen (p := ⟨xb, 1, none⟩) h0 hn).trans h6⟩

theorem Rx.setE {w : World} {xb : Nat} {l : List Int} {e : Int} (h : Rx XB w xb l e) (e1 : Int) : Rx XB (w.setCell ⟨xb, 1, none⟩ (.int .i64 e1)) xb l e1 := by
  obtain ⟨h0, ⟨v, h2, h3⟩, h4, h5, h6⟩ := h
  refine ⟨by simpa using h0, ⟨v, ?_, h3.keep (S := fun b => b = xb) ((Kp.refl (fun b => b = xb) w).setCell ⟨xb, 1, none⟩ _ (fun _ => rfl)) (fun b _ hb hb' => by have h' : b = xb := hb'; omega)⟩, ?_, by simpa using h5, by simpa using h6⟩
  · simp [go_sem, h2]
  · simp [go_sem, h4]

theorem Rx.setB {w : World} {xb : Nat} {l l' : List Int} {e : Int} (h : Rx XB w xb l e) {v' : Value} (hv : Bs (fun b => XB ≤ b ∧ b < xb) w v' l') : Rx XB (w.setCell ⟨xb, 0, none⟩ v') xb l' e := by
  obtain ⟨h0, ⟨v, h2, h3⟩, h4, h5, h6⟩ := h
  refine ⟨by simpa using h0, ⟨v', ?_, hv.keep (S := fun b => b = xb) ((Kp.refl (fun b => b = xb) w).setCell ⟨xb, 0, none⟩ v' (fun _ => rfl)) (fun b _ hb hb' => by have h' : b = xb := hb'; omega)⟩, ?_, by simpa using h5, by simpa using h6⟩
  · simp [go_sem, h2]
  · simp [go_sem, h4]

theorem kp_one (w : World) (b o : Nat) (v : Value) : Kp (fun k => k = b) w (w.setCell ⟨b, o, none⟩ v) := (Kp.refl (fun k => k = b) w).setCell ⟨b, o, none⟩ v (fun _ => rfl)

set_option maxHeartbeats 400000 in
theorem FailX_new {w : World} {xb : Nat} {l : List Int} (h : Rx XB w xb l 0) (e1 : Int) :
    Calls Try.prog 71 #[.pointer (some ⟨xb, 0, none⟩), .int .i64 e1] w fun e w' => e = .returned (.tuple #[]) ∧ w' = w.setCell ⟨xb, 1, none⟩ (.int .i64 e1) := by
  obtain ⟨h0, ⟨v, h2, h3⟩, h4, h5, h6⟩ := h
  clear h0 h2 h3 h5
  go_enter Try.func71, Try.ntmps71
  go_wp2
  go_end0
  exact ⟨rfl, rfl⟩

set_option maxHeartbeats 400000 in
theorem FailX_old {w : World} {xb : Nat} {l : List Int} {e0 : Int} (h : Rx XB w xb l e0) (he : e0 ≠ 0) (e1 : Int) :
    Calls Try.prog 71 #[.pointer (some ⟨xb, 0, none⟩), .int .i64 e1] w fun e w' => e = .returned (.tuple #[]) ∧ w' = w := by
  obtain ⟨h0, ⟨v, h2, h3⟩, h4, h5, h6⟩ := h
  have hn : (e0 == 0) = false := by rw [beq_eq_false_iff_ne]; exact he
  clear h0 h2 h3 h5 he
  go_enter Try.func71, Try.ntmps71
  go_wp2
  go_returns
  exact ⟨rfl, rfl⟩

set_option maxHeartbeats 400000 in
theorem LeftX_ok {w : World} {xb : Nat} {l : List Int} (h : Rx XB w xb l 0) (k : Nat) (hk : l.length = k) :
    Calls Try.prog 47 #[.pointer (some ⟨xb, 0, none⟩)] w fun e w' => e = .returned (.int .i64 k) ∧ w' = w := by
  obtain ⟨h0, ⟨v, h2, h3⟩, h4, h5, h6⟩ := h
  obtain ⟨a, cap, rfl⟩ := h3.len
  rw [hk] at h2
  clear h0 h3 h5 h6 hk
  go_enter Try.func47, Try.ntmps47
  go_wp2
  go_ret
  exact ⟨rfl, rfl⟩

set_option maxHeartbeats 400000 in
theorem LeftX_bad {w : World} {xb : Nat} {l : List Int} {e0 : Int} (h : Rx XB w xb l e0) (he : e0 ≠ 0) :
    Calls Try.prog 47 #[.pointer (some ⟨xb, 0, none⟩)] w fun e w' => e = .returned (.int .i64 0) ∧ w' = w := by
  obtain ⟨h0, ⟨v, h2, h3⟩, h4, h5, h6⟩ := h
  have hn : (e0 != 0) = true := by rw [bne_iff_ne]; exact he
  clear h0 h2 h3 h5 h6 he
  go_enter Try.func47, Try.ntmps47
  go_wp2
  go_ret
  exact ⟨rfl, rfl⟩
end

end Go.Proofs.Yteifaipbckhoiaa
