/- PolicyParses: the walk. -/
import Derived.Test.YtcigbfjmnhogiaaGreatDoorPsd
namespace Go.Proofs.YtcigbfjmnhogiaaGreatDoor
open Go.RowKit
set_option linter.unusedVariables false

set_option maxRecDepth 100000 in
set_option maxHeartbeats 4000000 in
theorem parses_some {w : World} (s : ByteArray) (st : PolD) (n : Nat) (h : parseM s = (some st, n)) (hs : s.size ≤ 1048576) (h8 : 8 ≤ w.heap.size) (G : Glob w) :
    Calls Tryz.prog 4 #[.string s] w fun e w' => VEnd w (.bool true) e w' := by
  have P1 : Hid (∀ w', Below w.heap.size w w' → Calls Tryz.prog 23 #[.string s] w' fun e w'' => PsS w' st e w'') := hd fun w' k => parse_some h w' (by omega) (Nat.le_trans h8 k.size) (G.keep k)
  have P2 : Hid (∀ w', Below w.heap.size w w' → Calls Tryz.prog 24 #[.string s] w' fun e w'' => PsS w' st e w'') := hd fun w' k => by
    have := rparse_ok s w' hs (Nat.le_trans h8 k.size) (G.keep k)
    rw [h] at this
    exact this
  have WT := hd fun w' (k : Below w.heap.size w w') => works_true w' (Nat.le_trans h8 k.size) (G.keep k)
  clear h hs h8 G
  go_enter Tryz.func4, Tryz.ntmps4
  go_wp2_with fail
  refine (P1.out w (Below.refl _ _)).mono ?_
  rintro e w1 ⟨x1, n1, k1, x2, n2, k2, rfl, er, eq, hk⟩
  go_wp2_with fail
  have D1 := Bk.new w1 25 #[Value.slice x1 n1 k1, Value.slice x2 n2 k2]
  have B1 := below_below hk (below1 w1 (Obj.cells #[Value.slice x1 n1 k1, Value.slice x2 n2 k2] 25))
  have ER := hd (er.keep (below1 w1 (Obj.cells #[Value.slice x1 n1 k1, Value.slice x2 n2 k2] 25)))
  have EQ := hd (eq.keep (below1 w1 (Obj.cells #[Value.slice x1 n1 k1, Value.slice x2 n2 k2] 25)))
  clear er eq
  generalize w1.alloc (Obj.cells #[Value.slice x1 n1 k1, Value.slice x2 n2 k2] 25) = w2 at *
  obtain ⟨b1, hb1⟩ : ∃ b1, w1.heap.size = b1 := ⟨_, rfl⟩
  rw [hb1] at D1 ⊢
  clear hb1 hk
  refine (P2.out w2 B1).mono ?_
  rintro e w3 ⟨y1, m1, j1, y2, m2, j2, rfl, fr, fq, hk⟩
  have D1 := D1.keep hk
  have B1 := below_below B1 hk
  have ER := hd (ER.out.keep hk)
  have EQ := hd (EQ.out.keep hk)
  clear hk
  have d0 : (w3.alloc (Obj.cells #[Value.slice y1 m1 j1, Value.slice y2 m2 j2] 25)).cell? ⟨b1, 0, none⟩ = some (Value.slice x1 n1 k1) := (D1.alloc _).cell 0
  have d1 : (w3.alloc (Obj.cells #[Value.slice y1 m1 j1, Value.slice y2 m2 j2] 25)).cell? ⟨b1, 1, none⟩ = some (Value.slice x2 n2 k2) := (D1.alloc _).cell 1
  have e0 : (w3.alloc (Obj.cells #[Value.slice y1 m1 j1, Value.slice y2 m2 j2] 25)).cell? ⟨w3.heap.size, 0, none⟩ = some (Value.slice y1 m1 j1) := (Bk.new w3 25 #[Value.slice y1 m1 j1, Value.slice y2 m2 j2]).cell 0
  have e1 : (w3.alloc (Obj.cells #[Value.slice y1 m1 j1, Value.slice y2 m2 j2] 25)).cell? ⟨w3.heap.size, 1, none⟩ = some (Value.slice y2 m2 j2) := (Bk.new w3 25 #[Value.slice y1 m1 j1, Value.slice y2 m2 j2]).cell 1
  have K4 := below1 w3 (Obj.cells #[Value.slice y1 m1 j1, Value.slice y2 m2 j2] 25)
  go_wp2_with fail
  have SM := rsame_pol (ER.out.keep K4) (EQ.out.keep K4) (fr.keep K4) (fq.keep K4)
  rw [sameP_self] at SM
  refine SM.mono ?_
  rintro e w5 ⟨rfl, hk⟩
  have B5 := below_below (below_below B1 K4) hk
  clear hk d0 d1 e0 e1 K4 B1 D1 SM fr fq
  go_wp2_with fail
  refine (WT.out w5 B5).mono ?_
  rintro e w6 ⟨rfl, hk⟩
  have HB := hd (below_below B5 hk)
  clear hk B5
  go_wp2_with fail
  go_ret
  exact VEnd.mk HB.out

set_option maxRecDepth 100000 in
set_option maxHeartbeats 4000000 in
theorem parses_none {w : World} (s : ByteArray) (n : Nat) (h : parseM s = (none, n)) (hs : s.size ≤ 1048576) (h8 : 8 ≤ w.heap.size) (G : Glob w) :
    Calls Tryz.prog 4 #[.string s] w fun e w' => VEnd w (.bool true) e w' := by
  have P1 : Hid (∀ w', Below w.heap.size w w' → Calls Tryz.prog 23 #[.string s] w' fun e w'' => PsN w' n e w'') := hd fun w' k => parse_none h w' (by omega) (Nat.le_trans h8 k.size) (G.keep k)
  have P2 : Hid (∀ w', Below w.heap.size w w' → Calls Tryz.prog 24 #[.string s] w' fun e w'' => PsN w' n e w'') := hd fun w' k => by
    have := rparse_ok s w' hs (Nat.le_trans h8 k.size) (G.keep k)
    rw [h] at this
    exact this
  have WT := hd fun w' (k : Below w.heap.size w w') => works_true w' (Nat.le_trans h8 k.size) (G.keep k)
  clear h hs h8 G
  go_enter Tryz.func4, Tryz.ntmps4
  go_wp2_with fail
  refine (P1.out w (Below.refl _ _)).mono ?_
  rintro e w1 ⟨rfl, hk⟩
  go_wp2_with fail
  have D1 := Bk.new w1 25 #[Value.slice none 0 0, Value.slice none 0 0]
  have B1 := below_below hk (below1 w1 (Obj.cells #[Value.slice none 0 0, Value.slice none 0 0] 25))
  generalize w1.alloc (Obj.cells #[Value.slice none 0 0, Value.slice none 0 0] 25) = w2 at *
  obtain ⟨b1, hb1⟩ : ∃ b1, w1.heap.size = b1 := ⟨_, rfl⟩
  rw [hb1] at D1 ⊢
  clear hb1 hk
  refine (P2.out w2 B1).mono ?_
  rintro e w3 ⟨rfl, hk⟩
  have D1 := D1.keep hk
  have B1 := below_below B1 hk
  clear hk
  have d0 : (w3.alloc (Obj.cells #[Value.slice none 0 0, Value.slice none 0 0] 25)).cell? ⟨b1, 0, none⟩ = some (Value.slice none 0 0) := (D1.alloc _).cell 0
  have d1 : (w3.alloc (Obj.cells #[Value.slice none 0 0, Value.slice none 0 0] 25)).cell? ⟨b1, 1, none⟩ = some (Value.slice none 0 0) := (D1.alloc _).cell 1
  have e0 : (w3.alloc (Obj.cells #[Value.slice none 0 0, Value.slice none 0 0] 25)).cell? ⟨w3.heap.size, 0, none⟩ = some (Value.slice none 0 0) := (Bk.new w3 25 #[Value.slice none 0 0, Value.slice none 0 0]).cell 0
  have e1 : (w3.alloc (Obj.cells #[Value.slice none 0 0, Value.slice none 0 0] 25)).cell? ⟨w3.heap.size, 1, none⟩ = some (Value.slice none 0 0) := (Bk.new w3 25 #[Value.slice none 0 0, Value.slice none 0 0]).cell 1
  have K4 := below1 w3 (Obj.cells #[Value.slice none 0 0, Value.slice none 0 0] 25)
  go_wp2_with fail
  have nilR : ∀ W, El encR 3 W (Value.slice none 0 0) [] := fun W => Or.inl ⟨rfl, none, 0, rfl⟩
  have nilQ : ∀ W, El encQ 5 W (Value.slice none 0 0) [] := fun W => Or.inl ⟨rfl, none, 0, rfl⟩
  have SM := rsame_pol (nilR (w3.alloc (Obj.cells #[Value.slice none 0 0, Value.slice none 0 0] 25))) (nilQ _) (nilR _) (nilQ _)
  rw [sameP_self] at SM
  refine SM.mono ?_
  rintro e w5 ⟨rfl, hk⟩
  have B5 := below_below (below_below B1 K4) hk
  clear hk d0 d1 e0 e1 K4 B1 D1 SM nilR nilQ
  go_wp2_with fail
  refine (WT.out w5 B5).mono ?_
  rintro e w6 ⟨rfl, hk⟩
  have HB := hd (below_below B5 hk)
  clear hk B5
  go_wp2_with fail
  go_ret
  exact VEnd.mk HB.out

end Go.Proofs.YtcigbfjmnhogiaaGreatDoor
