/- digits.sizeTold: how many bytes a first byte tells. -/
import Derived.Test.YtcgimbomandjfabLen
import Derived.Test.YtcgimbomandjfabNum
namespace Go.Proofs.Ytcgimbomandjfab
open Go.RowKit

theorem wr8 (l : Int) (h2 : 0 ≤ l) (h3 : l ≤ 8) : wrap64 l = l := by unfold wrap64; omega

set_option maxRecDepth 100000 in
set_option maxHeartbeats 400000 in
theorem len8_any (x : Int) (w : World) (h0 : 0 ≤ x) (h1 : x ≤ 255) :
    Calls Try.prog 43 #[.int .u8 x] w fun e w' => e = .returned (.int .i64 (Lib.len8 x)) ∧ w' = w := by
  have hs : Lib.len8tab.size = 256 := Lib.len8tab_size
  have HB : Hid (wrap64 (Lib.len8 x) = Lib.len8 x) := by have := len8_bd x h0 h1; exact wr8 _ this.1 this.2.1
  go_enter Try.func43, Try.ntmps43
  go_wp2
  go_ret
  exact ⟨congrArg (fun x => Ending.returned (Value.int .i64 x)) HB.out, rfl⟩

set_option maxHeartbeats 400000 in
theorem lead8_any (x : Int) (w : World) (h0 : 0 ≤ x) (h1 : x ≤ 255) :
    Calls Try.prog 38 #[.int .u8 x] w fun e w' => e = .returned (.int .i64 (8 - Lib.len8 x)) ∧ w' = w := by
  obtain ⟨hb0, hb1, _⟩ := len8_bd x h0 h1
  go_enter Try.func38, Try.ntmps38
  go_wp2_with (go_at_call 43; refine (len8_any _ _ h0 h1).mono ?_; rintro e w' ⟨rfl, rfl⟩)
  go_ret
  exact ⟨rfl, rfl⟩

theorem not8 (x : Int) (h0 : 0 ≤ x) (h1 : x ≤ 255) : 0 ≤ bits BinOp.xor IntKind.u8 IntKind.u8.max x ∧ bits BinOp.xor IntKind.u8 IntKind.u8.max x ≤ 255 ∧ 8 - Lib.len8 (bits BinOp.xor IntKind.u8 IntKind.u8.max x) + 1 = Num.told x := by
  have h : ∀ y : Fin 256, 0 ≤ bits BinOp.xor IntKind.u8 IntKind.u8.max (y.val : Int) ∧ bits BinOp.xor IntKind.u8 IntKind.u8.max (y.val : Int) ≤ 255 ∧ 8 - Lib.len8 (bits BinOp.xor IntKind.u8 IntKind.u8.max (y.val : Int)) + 1 = Num.told (y.val : Int) := by decide +kernel
  have e := h ⟨x.toNat, by omega⟩
  simp only [Int.toNat_of_nonneg h0] at e
  exact e

set_option maxHeartbeats 400000 in
theorem sizeTold_any (x : Int) (w : World) (h0 : 0 ≤ x) (h1 : x ≤ 255) :
    Calls Try.prog 31 #[.int .u8 x] w fun e w' => e = .returned (.int .i64 (Num.told x)) ∧ w' = w := by
  have N : Hid _ := not8 x h0 h1
  go_enter Try.func31, Try.ntmps31
  go_wp2_with fail
  refine (lead8_any _ _ N.out.1 N.out.2.1).mono ?_
  rintro e w' ⟨rfl, rfl⟩
  obtain ⟨n0, n1, n2⟩ := N.out
  have hb := len8_bd _ n0 n1
  clear n0 n1 N
  generalize Lib.len8 (bits BinOp.xor IntKind.u8 IntKind.u8.max x) = z at hb n2 ⊢
  obtain ⟨hb0, hb1, _⟩ := hb
  have N2 : Hid _ := n2
  clear n2
  go_wp2
  go_ret
  exact ⟨congrArg (fun x => Ending.returned (Value.int .i64 x)) N2.out, rfl⟩
end Go.Proofs.Ytcgimbomandjfab
