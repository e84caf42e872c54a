/- The chapter's example. -/
import Derived.Test.YteefpbeglmnilaaDoorWs
import Derived.Test.YteefpbeglmnilaaDoorGl
import Derived.Lib.SlBytesConst
namespace Go.Proofs.YteefpbeglmnilaaDoor
open Go.RowKit
set_option linter.unusedVariables false

def fox1 : List Int := [84, 104, 101, 32, 113, 117, 105, 99, 107, 32, 98, 114, 111, 119, 110, 32, 102, 111, 120, 32]
def fox2 : List Int := [106, 117, 109, 112, 115, 32, 111, 118, 101, 114, 32, 116, 104, 101, 32, 108, 97, 122, 121, 32, 100, 111, 103]
theorem fox_text : hexT (Sha.mac [107, 101, 121] (fox1 ++ fox2)) = [102, 55, 98, 99, 56, 51, 102, 52, 51, 48, 53, 51, 56, 52, 50, 52, 98, 49, 51, 50, 57, 56, 101, 54, 97, 97, 54, 102, 98, 49, 52, 51, 101, 102, 52, 100, 53, 57, 97, 49, 52, 57, 52, 54, 49, 55, 53, 57, 57, 55, 52, 55, 57, 100, 98, 99, 50, 100, 49, 97, 51, 99, 100, 56] := by decide +kernel

/-- Things that lie in a row of their own. -/
theorem Th.row {w : World} {g : Nat} {t : TypeId} {us : List Value} {ms : List (List Int)} (h : Row w g t us) (hl : us.length = ms.length) (hb : ms.length ≤ 140737488355328) (hs : ∀ i, i < ms.length → Sl w (us.getD i undef) (ms.getD i [])) (cap : Nat) (hc : ms.length ≤ cap) : Th w (.slice (some ⟨g, 0, none⟩) ms.length cap) ms :=
  Or.inr ⟨g, 0, cap, rfl, hc, hb, h.lt, fun i hi => ⟨us.getD i undef, by rw [Nat.zero_add]; exact h.cell i undef (by omega), hs i hi⟩⟩
theorem Th.one {w : World} {v : Value} {m : List Int} (h : Sl w v m) : Th (w.alloc (.cells #[v] 22)) (.slice (some ⟨w.heap.size, 0, none⟩) 1 1) [m] :=
  Th.row (us := [v]) (ms := [m]) (Row.new w 22 [v]) rfl (by simp) (fun i hi => by
    match i, hi with
    | 0, _ => exact h.keep ((Below.refl _ _).alloc (Nat.le_refl _) _)) 1 (Nat.le_refl _)
theorem Th.two {w : World} {u v : Value} {m n : List Int} (hu : Sl w u m) (hv : Sl w v n) : Th (w.alloc (.cells #[u, v] 22)) (.slice (some ⟨w.heap.size, 0, none⟩) 2 2) [m, n] :=
  Th.row (us := [u, v]) (ms := [m, n]) (Row.new w 22 [u, v]) rfl (by simp) (fun i hi => by
    match i, hi with
    | 0, _ => exact hu.keep ((Below.refl _ _).alloc (Nat.le_refl _) _)
    | 1, _ => exact hv.keep ((Below.refl _ _).alloc (Nat.le_refl _) _)) 2 (Nat.le_refl _)
theorem Th.three {w : World} {u v x : Value} {m n o : List Int} (hu : Sl w u m) (hv : Sl w v n) (hx : Sl w x o) : Th (w.alloc (.cells #[u, v, x] 22)) (.slice (some ⟨w.heap.size, 0, none⟩) 3 3) [m, n, o] :=
  Th.row (us := [u, v, x]) (ms := [m, n, o]) (Row.new w 22 [u, v, x]) rfl (by simp) (fun i hi => by
    match i, hi with
    | 0, _ => exact hu.keep ((Below.refl _ _).alloc (Nat.le_refl _) _)
    | 1, _ => exact hv.keep ((Below.refl _ _).alloc (Nat.le_refl _) _)
    | 2, _ => exact hx.keep ((Below.refl _ _).alloc (Nat.le_refl _) _)) 3 (Nat.le_refl _)
theorem Th.none (w : World) (x : Option Addr) (cap : Nat) : Th w (.slice x 0 cap) [] := Or.inl ⟨rfl, _, _, rfl⟩

theorem conv2 (w : World) (A : Obj) (C : Array Value) (n c : Nat) : (convert 22 22 (.slice (some ⟨w.heap.size + 1, 0, none⟩) n c)).run Tryd.prog ((w.alloc A).alloc (.cells C 5)) = .ok (.slice (some ⟨w.heap.size + 1, 0, none⟩) n c) ((w.alloc A).alloc (.cells C 5 (C.size, C.size + 1))) := by
  have h := Lib.run_convert_bytes_const (P := Tryd.prog) (w.alloc A) 22 5 C n c und25 Tryd.underlying5
  rw [World.size_alloc] at h
  exact h
theorem conv3 (w : World) (A B : Obj) (C : Array Value) (n c : Nat) : (convert 22 22 (.slice (some ⟨w.heap.size + 2, 0, none⟩) n c)).run Tryd.prog (((w.alloc A).alloc B).alloc (.cells C 5)) = .ok (.slice (some ⟨w.heap.size + 2, 0, none⟩) n c) (((w.alloc A).alloc B).alloc (.cells C 5 (C.size, C.size + 1))) := by
  have h := conv2 (w.alloc A) B C n c
  rw [World.size_alloc] at h
  exact h

set_option maxRecDepth 100000 in
set_option maxHeartbeats 1000000 in
theorem works_ok (w : World) (h : Glob w) : Calls Tryd.prog 13 #[] w fun e w' => TrueEnd w e w' := by
  have G := hd h
  clear h
  have kc := fun (w : World) (C : Array Value) (n c : Nat) => Lib.run_convert_bytes_const (P := Tryd.prog) w 22 5 C n c und25 Tryd.underlying5
  have k2 := conv2
  have k3 := conv3
  go_enter Tryd.func13, Tryd.ntmps13
  go_wp2_with fail
  clear kc k2 k3
  have s1 := sl_const w [107, 101, 121] (by decide) 5 (3, 4) (by decide)
  have s2 := sl_const (w.alloc (.cells (bs [107, 101, 121]).toArray 5 (3, 4))) fox1 (by decide) 5 (20, 21) (by decide)
  have s3 := sl_const ((w.alloc (.cells (bs [107, 101, 121]).toArray 5 (3, 4))).alloc (.cells (bs fox1).toArray 5 (20, 21))) fox2 (by decide) 5 (23, 24) (by decide)
  have s2' := s2.keep ((Below.refl _ _).alloc (Nat.le_refl _) (.cells (bs fox2).toArray 5 (23, 24)))
  have th := Th.two s2' s3
  have s1' := ((s1.keep ((Below.refl _ _).alloc (Nat.le_refl _) (.cells (bs fox1).toArray 5 (20, 21)))).keep ((Below.refl _ _).alloc (Nat.le_refl _) (.cells (bs fox2).toArray 5 (23, 24)))).keep ((Below.refl _ _).alloc (Nat.le_refl _) (.cells #[.slice (some ⟨(w.alloc (.cells (bs [107, 101, 121]).toArray 5 (3, 4))).heap.size, 0, none⟩) fox1.length fox1.length, .slice (some ⟨((w.alloc (.cells (bs [107, 101, 121]).toArray 5 (3, 4))).alloc (.cells (bs fox1).toArray 5 (20, 21))).heap.size, 0, none⟩) fox2.length fox2.length] 22))
  simp only [World.size_alloc] at s1' th
  have hc := wof_ok s1' th (by decide) (by intro x hx; simp at hx; omega) (by decide) (by
    intro m hm
    simp only [List.mem_cons, List.not_mem_nil, or_false] at hm
    rcases hm with rfl | rfl
    · intro x hx; simp [fox1] at hx; omega
    · intro x hx; simp [fox2] at hx; omega)
  refine Calls.mono (show Calls Tryd.prog 9 _ _ _ from hc) ?_
  rintro e w1 ⟨rfl, hk⟩
  have B1 : Hid (Below w.heap.size w w1) := hd (below_below (((((Below.refl _ _).alloc (Nat.le_refl _) _).alloc (by simp) _).alloc (by simp; omega) _).alloc (by simp; omega) _) hk)
  clear hk hc s1 s2 s3 s1' s2' th
  have e0 : List.flatten [fox1, fox2] = fox1 ++ fox2 := rfl
  rw [e0]
  go_wp2_with fail
  refine (hex_ok (Sha.mac [107, 101, 121] (fox1 ++ fox2)) (mac_len _ _) (byt_mac _ _) w1 (G.out.keep B1.out)).mono ?_
  rintro e w2 ⟨rfl, hk⟩
  have B2 := hd (below_below B1.out hk)
  clear hk B1
  rw [fox_text]
  go_wp2_with fail
  go_ret
  exact ⟨rfl, B2.out⟩
end Go.Proofs.YteefpbeglmnilaaDoor
