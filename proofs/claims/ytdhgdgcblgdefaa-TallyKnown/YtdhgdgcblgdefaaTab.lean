/- The table of halves: what tally.newHalves answers. -/
import Derived.Test.YtdhgdgcblgdefaaProg
import Derived.Test.YtdhgdgcblgdefaaMem
import Derived.Test.YtdhgdgcblgdefaaCrc
namespace Go.Proofs.Ytdhgdgcblgdefaa
open Go.RowKit
set_option linter.unusedVariables false

namespace Tab
theorem x1_0 : bits .xor .u32 0 3988292384 = 3988292384 := by decide +kernel
theorem x2_1 : bits .xor .u32 0 3988292384 = 3988292384 := by decide +kernel
theorem x3_0 : bits .xor .u32 1 3988292384 = 3988292385 := by decide +kernel
theorem x3_1 : bits .xor .u32 1994146192 3988292384 = 2607071920 := by decide +kernel
theorem x4_2 : bits .xor .u32 0 3988292384 = 3988292384 := by decide +kernel
theorem x5_0 : bits .xor .u32 2 3988292384 = 3988292386 := by decide +kernel
theorem x5_2 : bits .xor .u32 997073096 3988292384 = 3604390888 := by decide +kernel
theorem x6_1 : bits .xor .u32 1 3988292384 = 3988292385 := by decide +kernel
theorem x6_2 : bits .xor .u32 1994146192 3988292384 = 2607071920 := by decide +kernel
theorem x7_0 : bits .xor .u32 3 3988292384 = 3988292387 := by decide +kernel
theorem x7_1 : bits .xor .u32 1994146193 3988292384 = 2607071921 := by decide +kernel
theorem x7_2 : bits .xor .u32 1303535960 3988292384 = 2685067896 := by decide +kernel
theorem x8_3 : bits .xor .u32 0 3988292384 = 3988292384 := by decide +kernel
theorem x9_0 : bits .xor .u32 4 3988292384 = 3988292388 := by decide +kernel
theorem x9_3 : bits .xor .u32 498536548 3988292384 = 4027552580 := by decide +kernel
theorem x10_1 : bits .xor .u32 2 3988292384 = 3988292386 := by decide +kernel
theorem x10_3 : bits .xor .u32 997073096 3988292384 = 3604390888 := by decide +kernel
theorem x11_0 : bits .xor .u32 5 3988292384 = 3988292389 := by decide +kernel
theorem x11_1 : bits .xor .u32 1994146194 3988292384 = 2607071922 := by decide +kernel
theorem x11_3 : bits .xor .u32 651767980 3988292384 = 3412177804 := by decide +kernel
theorem x12_2 : bits .xor .u32 1 3988292384 = 3988292385 := by decide +kernel
theorem x12_3 : bits .xor .u32 1994146192 3988292384 = 2607071920 := by decide +kernel
theorem x13_0 : bits .xor .u32 6 3988292384 = 3988292390 := by decide +kernel
theorem x13_2 : bits .xor .u32 997073097 3988292384 = 3604390889 := by decide +kernel
theorem x13_3 : bits .xor .u32 1802195444 3988292384 = 2262029012 := by decide +kernel
theorem x14_1 : bits .xor .u32 3 3988292384 = 3988292387 := by decide +kernel
theorem x14_2 : bits .xor .u32 1994146193 3988292384 = 2607071921 := by decide +kernel
theorem x14_3 : bits .xor .u32 1303535960 3988292384 = 2685067896 := by decide +kernel
theorem x15_0 : bits .xor .u32 7 3988292384 = 3988292391 := by decide +kernel
theorem x15_1 : bits .xor .u32 1994146195 3988292384 = 2607071923 := by decide +kernel
theorem x15_2 : bits .xor .u32 1303535961 3988292384 = 2685067897 := by decide +kernel
theorem x15_3 : bits .xor .u32 1342533948 3988292384 = 3183342108 := by decide +kernel
theorem and1 (c : Int) : bits .and .u32 c 1 = c % 2 := by
  show IntKind.wrap .u32 (((BitVec.ofInt 32 c &&& BitVec.ofInt 32 1).toNat : Nat) : Int) = c % 2
  have e : (BitVec.ofInt 32 1) = 1#32 := by decide
  rw [e, BitVec.toNat_and, BitVec.toNat_ofInt]
  show IntKind.wrap .u32 (((c % 4294967296).toNat &&& 1 : Nat) : Int) = c % 2
  rw [Nat.and_one_is_mod]
  unfold IntKind.wrap
  simp only [IntKind.bits, IntKind.signed]
  simp
  omega

/-- The table's numbers. -/
def nums : List Int := [0, 498536548, 997073096, 651767980, 1994146192, 1802195444, 1303535960, 1342533948, 3988292384, 4027552580, 3604390888, 3412177804, 2607071920, 2262029012, 2685067896, 3183342108]

theorem nums_get : ∀ k : Fin 16, nums.getD k.val 0 = ((Crc.stn 4 (BitVec.ofNat 32 k.val)).toNat : Int) := by decide +kernel
end Tab

theorem und38 : Try.prog.underlying 38 = some (.array 16 22) := by kernel_rfl
theorem heap_two (w : World) (a b : Obj) : ((w.alloc a).alloc b).heap[w.heap.size]? = some a := by
  rw [heap_alloc_old (h := by simp), heap_alloc_new]

open Tab in
set_option maxRecDepth 100000 in
set_option maxHeartbeats 8000000 in
theorem halves_ok (w : World) :
    Calls Try.prog 19 #[] w fun e w' => e = .returned (.agg #[.int .u32 0, .int .u32 498536548, .int .u32 997073096, .int .u32 651767980, .int .u32 1994146192, .int .u32 1802195444, .int .u32 1303535960, .int .u32 1342533948, .int .u32 3988292384, .int .u32 4027552580, .int .u32 3604390888, .int .u32 3412177804, .int .u32 2607071920, .int .u32 2262029012, .int .u32 2685067896, .int .u32 3183342108]) ∧ Below w.heap.size w w' := by
  have hand := and1
  go_enter Try.func19, Try.ntmps19
  go_wp2
  refine wp_loop_rounds 17 ?_
  rw [rounds_succ]
  go_wp2
  refine wp_loop_rounds 5 ?_
  iterate 5
    rw [rounds_succ]
    go_wp2
  have hx1_0 := x1_0
  rw [rounds_succ]
  go_wp2
  refine wp_loop_rounds 5 ?_
  iterate 5
    rw [rounds_succ]
    go_wp2
  clear hx1_0
  have hx2_1 := x2_1
  rw [rounds_succ]
  go_wp2
  refine wp_loop_rounds 5 ?_
  iterate 5
    rw [rounds_succ]
    go_wp2
  clear hx2_1
  have hx3_0 := x3_0
  have hx3_1 := x3_1
  rw [rounds_succ]
  go_wp2
  refine wp_loop_rounds 5 ?_
  iterate 5
    rw [rounds_succ]
    go_wp2
  clear hx3_0 hx3_1
  have hx4_2 := x4_2
  rw [rounds_succ]
  go_wp2
  refine wp_loop_rounds 5 ?_
  iterate 5
    rw [rounds_succ]
    go_wp2
  clear hx4_2
  have hx5_0 := x5_0
  have hx5_2 := x5_2
  rw [rounds_succ]
  go_wp2
  refine wp_loop_rounds 5 ?_
  iterate 5
    rw [rounds_succ]
    go_wp2
  clear hx5_0 hx5_2
  have hx6_1 := x6_1
  have hx6_2 := x6_2
  rw [rounds_succ]
  go_wp2
  refine wp_loop_rounds 5 ?_
  iterate 5
    rw [rounds_succ]
    go_wp2
  clear hx6_1 hx6_2
  have hx7_0 := x7_0
  have hx7_1 := x7_1
  have hx7_2 := x7_2
  rw [rounds_succ]
  go_wp2
  refine wp_loop_rounds 5 ?_
  iterate 5
    rw [rounds_succ]
    go_wp2
  clear hx7_0 hx7_1 hx7_2
  have hx8_3 := x8_3
  rw [rounds_succ]
  go_wp2
  refine wp_loop_rounds 5 ?_
  iterate 5
    rw [rounds_succ]
    go_wp2
  clear hx8_3
  have hx9_0 := x9_0
  have hx9_3 := x9_3
  rw [rounds_succ]
  go_wp2
  refine wp_loop_rounds 5 ?_
  iterate 5
    rw [rounds_succ]
    go_wp2
  clear hx9_0 hx9_3
  have hx10_1 := x10_1
  have hx10_3 := x10_3
  rw [rounds_succ]
  go_wp2
  refine wp_loop_rounds 5 ?_
  iterate 5
    rw [rounds_succ]
    go_wp2
  clear hx10_1 hx10_3
  have hx11_0 := x11_0
  have hx11_1 := x11_1
  have hx11_3 := x11_3
  rw [rounds_succ]
  go_wp2
  refine wp_loop_rounds 5 ?_
  iterate 5
    rw [rounds_succ]
    go_wp2
  clear hx11_0 hx11_1 hx11_3
  have hx12_2 := x12_2
  have hx12_3 := x12_3
  rw [rounds_succ]
  go_wp2
  refine wp_loop_rounds 5 ?_
  iterate 5
    rw [rounds_succ]
    go_wp2
  clear hx12_2 hx12_3
  have hx13_0 := x13_0
  have hx13_2 := x13_2
  have hx13_3 := x13_3
  rw [rounds_succ]
  go_wp2
  refine wp_loop_rounds 5 ?_
  iterate 5
    rw [rounds_succ]
    go_wp2
  clear hx13_0 hx13_2 hx13_3
  have hx14_1 := x14_1
  have hx14_2 := x14_2
  have hx14_3 := x14_3
  rw [rounds_succ]
  go_wp2
  refine wp_loop_rounds 5 ?_
  iterate 5
    rw [rounds_succ]
    go_wp2
  clear hx14_1 hx14_2 hx14_3
  have hx15_0 := x15_0
  have hx15_1 := x15_1
  have hx15_2 := x15_2
  have hx15_3 := x15_3
  rw [rounds_succ]
  go_wp2
  refine wp_loop_rounds 5 ?_
  iterate 5
    rw [rounds_succ]
    go_wp2
  clear hx15_0 hx15_1 hx15_2 hx15_3
  rw [rounds_succ]
  go_wp2
  (try simp only [Exit.inBlock, Exit.then])
  refine bodyPost_ret (v := .agg #[.int .u32 0, .int .u32 498536548, .int .u32 997073096, .int .u32 651767980, .int .u32 1994146192, .int .u32 1802195444, .int .u32 1303535960, .int .u32 1342533948, .int .u32 3988292384, .int .u32 4027552580, .int .u32 3604390888, .int .u32 3412177804, .int .u32 2607071920, .int .u32 2262029012, .int .u32 2685067896, .int .u32 3183342108]) ?_ rfl ⟨rfl, ?_⟩
  · exact results_cell_row (P := Try.prog) (fn := Try.f19) (p := 0) (ty := 38) (by kernel_rfl) _ _ w.heap.size 38 #[.int .u32 0, .int .u32 498536548, .int .u32 997073096, .int .u32 651767980, .int .u32 1994146192, .int .u32 1802195444, .int .u32 1303535960, .int .u32 1342533948, .int .u32 3988292384, .int .u32 4027552580, .int .u32 3604390888, .int .u32 3412177804, .int .u32 2607071920, .int .u32 2262029012, .int .u32 2685067896, .int .u32 3183342108] (0, 0) _ rfl (heap_two w _ _) (hu := und38) rfl (by kernel_rfl)
  · exact ((Below.refl _ _).alloc (Nat.le_refl _) _).alloc (by simp) _

end Go.Proofs.Ytdhgdgcblgdefaa
