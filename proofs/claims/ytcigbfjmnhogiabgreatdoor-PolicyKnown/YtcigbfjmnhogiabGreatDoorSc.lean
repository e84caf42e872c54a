/- veil's figures; veil.read. -/
import Derived.Test.YtcigbfjmnhogiabGreatDoorSa
namespace Go.Proofs.YtcigbfjmnhogiabGreatDoor
open Go.RowKit
set_option linter.unusedVariables false

/-- What a figure of so many bits is worth; below 0: it is none. -/
def wr3 (c : Nat) : Int := if 48 ≤ c ∧ c ≤ 55 then (c : Int) - 48 else -1
def wr4 (c : Nat) : Int := if 48 ≤ c ∧ c ≤ 57 then (c : Int) - 48 else if 97 ≤ c ∧ c ≤ 102 then (c : Int) - 87 else -1

def figs : ByteArray := ⟨#[48, 49, 50, 51, 52, 53, 54, 55, 56, 57, 97, 98, 99, 100, 101, 102]⟩

theorem fig3 : ∀ c : Fin 128, firstIdx (figs.extract 0 8) c.val.toUInt8 = wr3 c.val := by decide +kernel
theorem fig4 : ∀ c : Fin 128, firstIdx (figs.extract 0 16) c.val.toUInt8 = wr4 c.val := by decide +kernel
theorem asc3 : ∀ b ∈ (figs.extract 0 8).data.toList, b.toNat < 128 := by decide +kernel
theorem asc4 : ∀ b ∈ (figs.extract 0 16).data.toList, b.toNat < 128 := by decide +kernel
theorem size3 : (figs.extract 0 8).size = 8 := by decide +kernel
theorem size4 : (figs.extract 0 16).size = 16 := by decide +kernel

theorem irune_high (s : ByteArray) (r : Int) (w : World) (h128 : 128 ≤ r) (hs : ∀ b ∈ s.data.toList, b.toNat < 128) (h8 : 8 ≤ s.size) (h16 : s.size ≤ 16) :
    Calls Tryz.prog 110 #[.string s, .int .i32 r] w fun e w' => VEnd w (.int .i64 (-1)) e w' := by
  by_cases h : r = 65533
  · subst h; exact irune_err s w hs
  · cases hv : validRune r
    · exact irune_no s r w h128 h hv
    · exact irune_yes s r w h128 h hv hs h8 h16

theorem irune3 (r : Nat) (w : World) : Calls Tryz.prog 110 #[.string (figs.extract 0 8), .int .i32 (r : Int)] w fun e w' => VEnd w (.int .i64 (wr3 r)) e w' := by
  by_cases h : r < 128
  · refine (irune_low _ (r : Int) _ w (by omega) (by omega) (fig3 ⟨r, h⟩)).mono ?_
    rintro e w' ⟨rfl, rfl⟩
    exact VEnd.mk (Below.refl _ _)
  · rw [show wr3 r = -1 by unfold wr3; rw [if_neg (by omega)]]
    exact irune_high _ _ w (by omega) asc3 (by rw [size3]; omega) (by rw [size3]; omega)

theorem irune4 (r : Nat) (w : World) : Calls Tryz.prog 110 #[.string (figs.extract 0 16), .int .i32 (r : Int)] w fun e w' => VEnd w (.int .i64 (wr4 r)) e w' := by
  by_cases h : r < 128
  · refine (irune_low _ (r : Int) _ w (by omega) (by omega) (fig4 ⟨r, h⟩)).mono ?_
    rintro e w' ⟨rfl, rfl⟩
    exact VEnd.mk (Below.refl _ _)
  · rw [show wr4 r = -1 by unfold wr4; rw [if_neg (by omega), if_neg (by omega)]]
    exact irune_high _ _ w (by omega) asc4 (by rw [size4]; omega) (by rw [size4]; omega)

set_option maxRecDepth 100000 in
set_option maxHeartbeats 1000000 in
theorem worth3 (r b : Nat) (w : World) (hc : w.cell? ⟨b, 0, none⟩ = some (.int .i64 3)) :
    Calls Tryz.prog 109 #[.int .i32 (r : Int), .pointer (some ⟨b, 0, none⟩)] w fun e w' => VEnd w (.int .i64 (wr3 r)) e w' := by
  go_enter Tryz.func109, Tryz.ntmps109
  go_wp2_with fail
  refine (irune3 r w).mono ?_
  rintro e w' ⟨rfl, hk⟩
  go_wp2_with fail
  go_ret
  exact VEnd.mk hk

set_option maxRecDepth 100000 in
set_option maxHeartbeats 1000000 in
theorem worth4 (r b : Nat) (w : World) (hc : w.cell? ⟨b, 0, none⟩ = some (.int .i64 4)) :
    Calls Tryz.prog 109 #[.int .i32 (r : Int), .pointer (some ⟨b, 0, none⟩)] w fun e w' => VEnd w (.int .i64 (wr4 r)) e w' := by
  go_enter Tryz.func109, Tryz.ntmps109
  go_wp2_with fail
  refine (irune4 r w).mono ?_
  rintro e w' ⟨rfl, hk⟩
  go_wp2_with fail
  go_ret
  exact VEnd.mk hk

/-- A text's byte. -/
def bt (s : ByteArray) (k : Nat) : Nat := (s.data.toList.getD k 0).toNat

theorem bt_eq (s : ByteArray) (k : Nat) (h : k < s.size) : (s[k]'h).toNat = bt s k := by
  unfold bt
  have h' : k < s.data.toList.length := by simpa using h
  rw [List.getD_eq_getElem?_getD, List.getElem?_eq_getElem h', Option.getD_some]
  simp
  rfl

theorem decode_low (s : ByteArray) (k : Nat) (h : k < s.size) (ha : bt s k < 128) : Utf8.decode s k = (bt s k, 1) := by
  rw [decode_ascii s k h (by rw [bt_eq]; exact ha), bt_eq]

theorem decode_up (s : ByteArray) (k : Nat) (h : k < s.size) (ha : 128 ≤ bt s k) : 128 ≤ (Utf8.decode s k).1 := (decode_high s k h (by rw [bt_eq]; exact ha)).1

/-- The number of the first k figures. -/
def val3 (s : ByteArray) : Nat → Int
  | 0 => 0
  | k + 1 => val3 s k * 8 + wr3 (bt s k)

/-- The first k bytes are figures. -/
def allF3 (s : ByteArray) (k : Nat) : Prop := ∀ j, j < k → 0 ≤ wr3 (bt s j)

theorem wr3_lt (c : Nat) : wr3 c < 8 := by
  unfold wr3
  repeat' split
  all_goals omega
theorem wr3_ge (c : Nat) : -1 ≤ wr3 c := by
  unfold wr3
  repeat' split
  all_goals omega
theorem wr3_up (c : Nat) (h : 128 ≤ c) : wr3 c = -1 := by
  unfold wr3
  repeat' split
  all_goals omega

theorem val3_bd (s : ByteArray) : ∀ k, allF3 s k → 0 ≤ val3 s k ∧ val3 s k < 8 ^ k
  | 0, _ => ⟨Int.le_refl _, by simp [val3]⟩
  | k + 1, h => by
    have ih := val3_bd s k (fun j hj => h j (by omega))
    have h1 := h k (by omega)
    have h2 := wr3_lt (bt s k)
    rw [val3, Int.pow_succ]
    omega

theorem orF3 (n a : Int) (h0 : 0 ≤ n) (h1 : n < 8) (h2 : 0 ≤ a) (h3 : a < 8) : bits .or .u32 (n * 8) a = n * 8 + a := by
  obtain ⟨N, rfl⟩ := Int.eq_ofNat_of_zero_le h0
  obtain ⟨A, rfl⟩ := Int.eq_ofNat_of_zero_le h2
  have e := u32_or_nat (N * 8) A (by omega) (by omega)
  have e2 : (N * 8) ||| A = N * 8 + A := by
    have e3 := Nat.two_pow_add_eq_or_of_lt (i := 3) (b := A) (by omega) N
    rw [show N * 8 = 2 ^ 3 * N by omega, ← e3]
  rw [e2] at e
  push_cast at e
  exact e

set_option maxRecDepth 100000 in
set_option maxHeartbeats 1000000 in
theorem read3_len (s : ByteArray) (n : Nat) (w : World) (hn : s.size = n) (h : n ≠ 1) :
    Calls Tryz.prog 97 #[.string s, .int .i64 3, .int .i64 1] w fun e w' => VEnd w (.tuple #[.int .u32 0, .bool false]) e w' := by
  have hb : ((n : Int) != 1) = true := by rw [bne_iff_ne]; omega
  clear h
  go_enter Tryz.func97, Tryz.ntmps97
  go_wp2_with fail
  go_ret2
  exact VEnd.mk (below1 _ _)

/-- While figures are read. -/
structure RS3 (s : ByteArray) (w wr : World) (k : Nat) : Prop where
  bel : Below w.heap.size w wr
  box : wr.cell? ⟨w.heap.size, 0, none⟩ = some (.int .i64 3)
  it : wr.heap[w.heap.size + 1]? = some (.stringIter s k)

set_option maxRecDepth 100000 in
set_option maxHeartbeats 2000000 in
theorem read3_go (s : ByteArray) (v : Int) (o : Bool) (w : World) (hs : s.size = 1) (hyes : allF3 s 1 → v = val3 s 1 ∧ o = true) (hno : ¬ allF3 s 1 → v = 0 ∧ o = false) :
    Calls Tryz.prog 97 #[.string s, .int .i64 3, .int .i64 1] w fun e w' => VEnd w (.tuple #[.int .u32 v, .bool o]) e w' := by
  have HY := hd hyes
  have HN := hd hno
  clear hyes hno
  go_enter Tryz.func97, Tryz.ntmps97
  go_wp2_with fail
  have HS := hd hs
  clear hs
  have R0 : Hid (RS3 s w ((w.alloc (Obj.cells #[Value.int IntKind.i64 3] 3)).iter s 0) 0) := hd (by
    refine ⟨below2 w _ _, ?_, ?_⟩
    · rw [show ((w.alloc (Obj.cells #[Value.int IntKind.i64 3] 3)).iter s 0).cell? ⟨w.heap.size, 0, none⟩ = (w.alloc (Obj.cells #[Value.int IntKind.i64 3] 3)).cell? ⟨w.heap.size, 0, none⟩ from World.cell?_of_block (heap_alloc_old _ _ (by simp))]
      exact World.cell?_alloc_at (w := w) _ _ _ _ rfl
    · have h := World.iter_heap (w.alloc (Obj.cells #[Value.int IntKind.i64 3] 3)) s 0
      simpa using h)
  generalize ((w.alloc (Obj.cells #[Value.int IntKind.i64 3] 3)).iter s 0) = w0 at *
  go_loopw [9] (fun n wr => ∃ k : Nat, k ≤ 1 ∧ n = .int .u32 (val3 s k) ∧ allF3 s k ∧ RS3 s w wr k) (fun _ wr => 1 - wr.iterPos (w.heap.size + 1))
  case atStart => exact ⟨0, Nat.zero_le _, rfl, fun j hj => absurd hj (Nat.not_lt_zero j), R0.out⟩
  case round =>
    clear R0
    obtain ⟨k, hk, rfl, hall, hrs⟩ := hrel
    have HA := hd hall
    have HR := hd hrs
    clear hall hrs
    by_cases hlt : k < 1
    · have hp : k < s.size := by rw [HS.out]; exact hlt
      have hnx : ∀ ty, (Instr.next (.pointer (some ⟨w.heap.size + 1, 0, none⟩)) true ty).run Tryz.prog wr = _ := fun ty => Lib.run_next_any_at wr (w.heap.size + 1) s k ty HR.out.it hp
      have HP := hd hp
      clear hp
      obtain ⟨r, d, hrd⟩ : ∃ r d, Utf8.decode s k = (r, d) := ⟨_, _, rfl⟩
      rw [hrd] at hnx
      have HD := hd hrd
      clear hrd
      have KB : Hid (Below w.heap.size w (wr.iterAt (w.heap.size + 1) s (k + d))) := hd (Lib.below_iterAt HR.out.bel (k := w.heap.size + 1) (by omega) s (k + d))
      have KI : Hid ((wr.iterAt (w.heap.size + 1) s (k + d)).heap[w.heap.size + 1]? = some (.stringIter s (k + d))) := hd (Lib.iterAt_heap wr (w.heap.size + 1) s k (k + d) HR.out.it)
      have KC : (wr.iterAt (w.heap.size + 1) s (k + d)).cell? ⟨w.heap.size, 0, none⟩ = some (.int .i64 3) := by
        rw [World.cell?_of_block (a := ⟨w.heap.size, 0, none⟩) (Lib.iterAt_other wr (w.heap.size + 1) w.heap.size s _ (by omega))]
        exact HR.out.box
      go_wp2_with fail
      generalize wr.iterAt (w.heap.size + 1) s (k + d) = w1 at *
      refine (worth3 r w.heap.size w1 KC).mono ?_
      rintro e w2 ⟨rfl, hk2⟩
      have hlt1 : w.heap.size + 1 < w1.heap.size := (Array.getElem?_eq_some_iff.1 KI.out).1
      have B2 := hd (below_below KB.out hk2)
      have I2 : Hid (w2.heap[w.heap.size + 1]? = some (.stringIter s (k + d))) := hd ((hk2.block _ hlt1).trans KI.out)
      have c2 : w2.cell? ⟨w.heap.size, 0, none⟩ = some (.int .i64 3) := by
        rw [World.cell?_of_block (a := ⟨w.heap.size, 0, none⟩) (hk2.block w.heap.size (by omega))]
        exact KC
      clear hk2 hlt1 KB KI KC hnx
      by_cases hw : wr3 r < 0
      · have HF : Hid (¬ allF3 s 1) := hd (fun hf => by
          have h1 := hf k hlt
          by_cases hc : bt s k < 128
          · rw [decode_low s k HP.out hc] at HD
            have e := congrArg Prod.fst HD.out
            simp only at e
            rw [e] at h1
            omega
          · rw [wr3_up _ (by omega)] at h1
            omega)
        obtain ⟨e1, e2⟩ := HN.out HF.out
        subst e1 e2
        generalize wr3 r = y at *
        go_wp2_with fail
        go_ret2
        exact VEnd.mk B2.out
      · have hc : bt s k < 128 := by
          by_cases hc : bt s k < 128
          · exact hc
          · have h2 := decode_up s k HP.out (by omega)
            rw [HD.out] at h2
            have := wr3_up r h2
            omega
        have e := decode_low s k HP.out hc
        rw [HD.out] at e
        injection e with e1 e2
        subst e1 e2
        have hw2 : 0 ≤ wr3 (bt s k) := by omega
        have A2 : Hid (allF3 s (k + 1)) := hd (fun j hj => by
          by_cases e : j = k
          · subst e; exact hw2
          · exact HA.out j (by omega))
        have hv := val3_bd s k HA.out
        have hpow : val3 s k < 8 := by
          have h1 : (8 : Nat) ^ k ≤ 8 ^ (1 - 1) := Nat.pow_le_pow_right (by decide) (by omega)
          have h2 : (8 : Nat) ^ (1 - 1) ≤ 8 := by decide
          have h3 : (8 : Int) ^ k = (((8 : Nat) ^ k : Nat) : Int) := by push_cast; rfl
          omega
        have hwl := wr3_lt (bt s k)
        have HO := orF3 (val3 s k) (wr3 (bt s k)) hv.1 hpow hw2 hwl
        have HV : Hid (val3 s (k + 1) = val3 s k * 8 + wr3 (bt s k)) := hd rfl
        obtain ⟨hv0, _⟩ := hv
        clear HD HP hc hw
        generalize val3 s k = z at *
        generalize wr3 (bt s k) = y at *
        go_wp2_with fail

        go_roundw
        case rel => exact ⟨k + 1, by omega, by rw [HV.out], A2.out, ⟨B2.out, c2, I2.out⟩⟩
        case measure => simp only [World.iterPos, I2.out, HR.out.it]; omega
    · have hkw : k = 1 := by omega
      subst hkw
      have hnx : ∀ ty, (Instr.next (.pointer (some ⟨w.heap.size + 1, 0, none⟩)) true ty).run Tryz.prog wr = _ := fun ty => Lib.run_next_end_at wr (w.heap.size + 1) s 1 ty HR.out.it (by rw [HS.out]; omega)
      obtain ⟨e1, e2⟩ := HY.out HA.out
      subst e1 e2
      go_wp2_with fail
      go_ret2
      exact VEnd.mk HR.out.bel

/-- The number of the first k figures. -/
def val4 (s : ByteArray) : Nat → Int
  | 0 => 0
  | k + 1 => val4 s k * 16 + wr4 (bt s k)

/-- The first k bytes are figures. -/
def allF4 (s : ByteArray) (k : Nat) : Prop := ∀ j, j < k → 0 ≤ wr4 (bt s j)

theorem wr4_lt (c : Nat) : wr4 c < 16 := by
  unfold wr4
  repeat' split
  all_goals omega
theorem wr4_ge (c : Nat) : -1 ≤ wr4 c := by
  unfold wr4
  repeat' split
  all_goals omega
theorem wr4_up (c : Nat) (h : 128 ≤ c) : wr4 c = -1 := by
  unfold wr4
  repeat' split
  all_goals omega

theorem val4_bd (s : ByteArray) : ∀ k, allF4 s k → 0 ≤ val4 s k ∧ val4 s k < 16 ^ k
  | 0, _ => ⟨Int.le_refl _, by simp [val4]⟩
  | k + 1, h => by
    have ih := val4_bd s k (fun j hj => h j (by omega))
    have h1 := h k (by omega)
    have h2 := wr4_lt (bt s k)
    rw [val4, Int.pow_succ]
    omega

theorem orF4 (n a : Int) (h0 : 0 ≤ n) (h1 : n < 268435456) (h2 : 0 ≤ a) (h3 : a < 16) : bits .or .u32 (n * 16) a = n * 16 + a := by
  obtain ⟨N, rfl⟩ := Int.eq_ofNat_of_zero_le h0
  obtain ⟨A, rfl⟩ := Int.eq_ofNat_of_zero_le h2
  have e := u32_or_nat (N * 16) A (by omega) (by omega)
  have e2 : (N * 16) ||| A = N * 16 + A := by
    have e3 := Nat.two_pow_add_eq_or_of_lt (i := 4) (b := A) (by omega) N
    rw [show N * 16 = 2 ^ 4 * N by omega, ← e3]
  rw [e2] at e
  push_cast at e
  exact e

set_option maxRecDepth 100000 in
set_option maxHeartbeats 1000000 in
theorem read4_len (s : ByteArray) (n : Nat) (w : World) (hn : s.size = n) (h : n ≠ 8) :
    Calls Tryz.prog 97 #[.string s, .int .i64 4, .int .i64 8] w fun e w' => VEnd w (.tuple #[.int .u32 0, .bool false]) e w' := by
  have hb : ((n : Int) != 8) = true := by rw [bne_iff_ne]; omega
  clear h
  go_enter Tryz.func97, Tryz.ntmps97
  go_wp2_with fail
  go_ret2
  exact VEnd.mk (below1 _ _)

/-- While figures are read. -/
structure RS4 (s : ByteArray) (w wr : World) (k : Nat) : Prop where
  bel : Below w.heap.size w wr
  box : wr.cell? ⟨w.heap.size, 0, none⟩ = some (.int .i64 4)
  it : wr.heap[w.heap.size + 1]? = some (.stringIter s k)

set_option maxRecDepth 100000 in
set_option maxHeartbeats 2000000 in
theorem read4_go (s : ByteArray) (v : Int) (o : Bool) (w : World) (hs : s.size = 8) (hyes : allF4 s 8 → v = val4 s 8 ∧ o = true) (hno : ¬ allF4 s 8 → v = 0 ∧ o = false) :
    Calls Tryz.prog 97 #[.string s, .int .i64 4, .int .i64 8] w fun e w' => VEnd w (.tuple #[.int .u32 v, .bool o]) e w' := by
  have HY := hd hyes
  have HN := hd hno
  clear hyes hno
  go_enter Tryz.func97, Tryz.ntmps97
  go_wp2_with fail
  have HS := hd hs
  clear hs
  have R0 : Hid (RS4 s w ((w.alloc (Obj.cells #[Value.int IntKind.i64 4] 3)).iter s 0) 0) := hd (by
    refine ⟨below2 w _ _, ?_, ?_⟩
    · rw [show ((w.alloc (Obj.cells #[Value.int IntKind.i64 4] 3)).iter s 0).cell? ⟨w.heap.size, 0, none⟩ = (w.alloc (Obj.cells #[Value.int IntKind.i64 4] 3)).cell? ⟨w.heap.size, 0, none⟩ from World.cell?_of_block (heap_alloc_old _ _ (by simp))]
      exact World.cell?_alloc_at (w := w) _ _ _ _ rfl
    · have h := World.iter_heap (w.alloc (Obj.cells #[Value.int IntKind.i64 4] 3)) s 0
      simpa using h)
  generalize ((w.alloc (Obj.cells #[Value.int IntKind.i64 4] 3)).iter s 0) = w0 at *
  go_loopw [9] (fun n wr => ∃ k : Nat, k ≤ 8 ∧ n = .int .u32 (val4 s k) ∧ allF4 s k ∧ RS4 s w wr k) (fun _ wr => 8 - wr.iterPos (w.heap.size + 1))
  case atStart => exact ⟨0, Nat.zero_le _, rfl, fun j hj => absurd hj (Nat.not_lt_zero j), R0.out⟩
  case round =>
    clear R0
    obtain ⟨k, hk, rfl, hall, hrs⟩ := hrel
    have HA := hd hall
    have HR := hd hrs
    clear hall hrs
    by_cases hlt : k < 8
    · have hp : k < s.size := by rw [HS.out]; exact hlt
      have hnx : ∀ ty, (Instr.next (.pointer (some ⟨w.heap.size + 1, 0, none⟩)) true ty).run Tryz.prog wr = _ := fun ty => Lib.run_next_any_at wr (w.heap.size + 1) s k ty HR.out.it hp
      have HP := hd hp
      clear hp
      obtain ⟨r, d, hrd⟩ : ∃ r d, Utf8.decode s k = (r, d) := ⟨_, _, rfl⟩
      rw [hrd] at hnx
      have HD := hd hrd
      clear hrd
      have KB : Hid (Below w.heap.size w (wr.iterAt (w.heap.size + 1) s (k + d))) := hd (Lib.below_iterAt HR.out.bel (k := w.heap.size + 1) (by omega) s (k + d))
      have KI : Hid ((wr.iterAt (w.heap.size + 1) s (k + d)).heap[w.heap.size + 1]? = some (.stringIter s (k + d))) := hd (Lib.iterAt_heap wr (w.heap.size + 1) s k (k + d) HR.out.it)
      have KC : (wr.iterAt (w.heap.size + 1) s (k + d)).cell? ⟨w.heap.size, 0, none⟩ = some (.int .i64 4) := by
        rw [World.cell?_of_block (a := ⟨w.heap.size, 0, none⟩) (Lib.iterAt_other wr (w.heap.size + 1) w.heap.size s _ (by omega))]
        exact HR.out.box
      go_wp2_with fail
      generalize wr.iterAt (w.heap.size + 1) s (k + d) = w1 at *
      refine (worth4 r w.heap.size w1 KC).mono ?_
      rintro e w2 ⟨rfl, hk2⟩
      have hlt1 : w.heap.size + 1 < w1.heap.size := (Array.getElem?_eq_some_iff.1 KI.out).1
      have B2 := hd (below_below KB.out hk2)
      have I2 : Hid (w2.heap[w.heap.size + 1]? = some (.stringIter s (k + d))) := hd ((hk2.block _ hlt1).trans KI.out)
      have c2 : w2.cell? ⟨w.heap.size, 0, none⟩ = some (.int .i64 4) := by
        rw [World.cell?_of_block (a := ⟨w.heap.size, 0, none⟩) (hk2.block w.heap.size (by omega))]
        exact KC
      clear hk2 hlt1 KB KI KC hnx
      by_cases hw : wr4 r < 0
      · have HF : Hid (¬ allF4 s 8) := hd (fun hf => by
          have h1 := hf k hlt
          by_cases hc : bt s k < 128
          · rw [decode_low s k HP.out hc] at HD
            have e := congrArg Prod.fst HD.out
            simp only at e
            rw [e] at h1
            omega
          · rw [wr4_up _ (by omega)] at h1
            omega)
        obtain ⟨e1, e2⟩ := HN.out HF.out
        subst e1 e2
        generalize wr4 r = y at *
        go_wp2_with fail
        go_ret2
        exact VEnd.mk B2.out
      · have hc : bt s k < 128 := by
          by_cases hc : bt s k < 128
          · exact hc
          · have h2 := decode_up s k HP.out (by omega)
            rw [HD.out] at h2
            have := wr4_up r h2
            omega
        have e := decode_low s k HP.out hc
        rw [HD.out] at e
        injection e with e1 e2
        subst e1 e2
        have hw2 : 0 ≤ wr4 (bt s k) := by omega
        have A2 : Hid (allF4 s (k + 1)) := hd (fun j hj => by
          by_cases e : j = k
          · subst e; exact hw2
          · exact HA.out j (by omega))
        have hv := val4_bd s k HA.out
        have hpow : val4 s k < 268435456 := by
          have h1 : (16 : Nat) ^ k ≤ 16 ^ (8 - 1) := Nat.pow_le_pow_right (by decide) (by omega)
          have h2 : (16 : Nat) ^ (8 - 1) ≤ 268435456 := by decide
          have h3 : (16 : Int) ^ k = (((16 : Nat) ^ k : Nat) : Int) := by push_cast; rfl
          omega
        have hwl := wr4_lt (bt s k)
        have HO := orF4 (val4 s k) (wr4 (bt s k)) hv.1 hpow hw2 hwl
        have HV : Hid (val4 s (k + 1) = val4 s k * 16 + wr4 (bt s k)) := hd rfl
        obtain ⟨hv0, _⟩ := hv
        clear HD HP hc hw
        generalize val4 s k = z at *
        generalize wr4 (bt s k) = y at *
        go_wp2_with fail

        go_roundw
        case rel => exact ⟨k + 1, by omega, by rw [HV.out], A2.out, ⟨B2.out, c2, I2.out⟩⟩
        case measure => simp only [World.iterPos, I2.out, HR.out.it]; omega
    · have hkw : k = 8 := by omega
      subst hkw
      have hnx : ∀ ty, (Instr.next (.pointer (some ⟨w.heap.size + 1, 0, none⟩)) true ty).run Tryz.prog wr = _ := fun ty => Lib.run_next_end_at wr (w.heap.size + 1) s 8 ty HR.out.it (by rw [HS.out]; omega)
      obtain ⟨e1, e2⟩ := HY.out HA.out
      subst e1 e2
      go_wp2_with fail
      go_ret2
      exact VEnd.mk HR.out.bel

end Go.Proofs.YtcigbfjmnhogiabGreatDoor
