/- ValueKnown: lists that may not be, as they lie; rows of bytes. -/
import Derived.Test.YtibnjhnecfcimabNn
namespace Go.Proofs.Ytibnjhnecfcimab
open Go.RowKit
set_option linter.unusedVariables false

theorem El.made (u : World) (xs : List AttrD) (cs : Array Value) (hcs : cs = (fl encA xs).toArray) (m : Nat) (hm : xs.length = m) (hb : m ≤ 1000) : El encA 6 (u.alloc (.cells cs 32)) (.slice (some ⟨u.heap.size, 0, none⟩) m m) xs := by
  subst hcs hm
  refine Or.inr ⟨u.heap.size, 0, xs.length, rfl, Nat.le_refl _, by omega, by simp, fun j hj i v hv => ?_⟩
  rw [(Bk.new u 32 (fl encA xs).toArray).cell (0 + j * 6 + i), List.getElem?_toArray, Nat.zero_add]
  exact fl_at lenA xs j hj i v hv

theorem El.cap9 {w : World} {x : Option Addr} {c : Nat} (h : El encA 6 w (.slice x 9 c) (nmL 9)) : (∃ g off, x = some ⟨g, off, none⟩) ∧ 9 ≤ c := by
  rcases h with ⟨h, _⟩ | ⟨g, off, cap, hv, h2, _⟩
  · have := congrArg List.length h
    rw [nmL_len] at this
    cases this
  · rw [nmL_len] at hv h2
    cases hv
    exact ⟨⟨g, off, rfl⟩, h2⟩
theorem El.front8 {w : World} {x : Option Addr} {c : Nat} (h : El encA 6 w (.slice x 9 c) (nmL 9)) : El encA 6 w (.slice x 8 c) (nmL 8) := by
  rcases h with ⟨h, _⟩ | ⟨g, off, cap, hv, h2, h3, h4, h5⟩
  · have := congrArg List.length h
    rw [nmL_len] at this
    cases this
  · rw [nmL_len] at hv h2
    cases hv
    refine Or.inr ⟨g, off, c, by rw [nmL_len], by rw [nmL_len]; omega, by rw [nmL_len]; omega, h4, fun j hj i u hu => ?_⟩
    rw [nmL_len] at hj
    refine h5 j (by rw [nmL_len]; omega) i u ?_
    have e : (nmL 9)[j]'(by rw [nmL_len]; omega) = (nmL 8)[j]'(by rw [nmL_len]; exact hj) := by
      unfold nmL
      simp
    rw [e]
    exact hu

/-- The five lists that may not be; ahead of them the attribute that they are made of. -/
structure BAD (W : World) (N : Nat) : Prop where
  one : Bk W N 32 #[Value.string ⟨#[97]⟩, Value.int IntKind.i64 0, Value.int IntKind.u32 0, Value.int IntKind.i64 3, Value.int IntKind.i64 0, Value.string ⟨#[]⟩]
  rows : ∀ k, k < 5 → ∃ x m, W.cell? ⟨N + 1 + 1 + 1 + 1 + 1 + 1 + 1, k, none⟩ = some (.slice x m m) ∧ El encA 6 W (.slice x m m) (badL k)
theorem BAD.keep {W W' : World} {N : Nat} (h : BAD W N) (b : Below W.heap.size W W') : BAD W' N :=
  ⟨h.one.keep b, fun k hk => by
    obtain ⟨x, m, h1, h2⟩ := h.rows k hk
    exact ⟨x, m, (below_cell b (World.block_lt_of_cell? W _ h1)).trans h1, h2.keep b⟩⟩

set_option maxRecDepth 100000 in
theorem made_bad (w : World) : BAD ((((((((w.alloc (Obj.cells #[Value.string ⟨#[97]⟩, Value.int IntKind.i64 0, Value.int IntKind.u32 0, Value.int IntKind.i64 3, Value.int IntKind.i64 0, Value.string ⟨#[]⟩] 32)).alloc (Obj.cells #[Value.string ⟨#[98]⟩, Value.int IntKind.i64 0, Value.int IntKind.u32 0, Value.int IntKind.i64 3, Value.int IntKind.i64 0, Value.string ⟨#[]⟩] 32)).alloc (Obj.cells #[Value.string ⟨#[98]⟩, Value.int IntKind.i64 0, Value.int IntKind.u32 0, Value.int IntKind.i64 3, Value.int IntKind.i64 0, Value.string ⟨#[]⟩, Value.string ⟨#[97]⟩, Value.int IntKind.i64 0, Value.int IntKind.u32 0, Value.int IntKind.i64 3, Value.int IntKind.i64 0, Value.string ⟨#[]⟩] 32)).alloc (Obj.cells #[Value.string ⟨#[97]⟩, Value.int IntKind.i64 0, Value.int IntKind.u32 0, Value.int IntKind.i64 3, Value.int IntKind.i64 0, Value.string ⟨#[]⟩, Value.string ⟨#[97]⟩, Value.int IntKind.i64 0, Value.int IntKind.u32 0, Value.int IntKind.i64 3, Value.int IntKind.i64 0, Value.string ⟨#[]⟩] 32)).alloc (Obj.cells #[Value.string ⟨#[65]⟩, Value.int IntKind.i64 0, Value.int IntKind.u32 0, Value.int IntKind.i64 3, Value.int IntKind.i64 0, Value.string ⟨#[]⟩] 32)).alloc (Obj.cells #[Value.string ⟨#[97]⟩, Value.int IntKind.i64 0, Value.int IntKind.u32 0, Value.int IntKind.i64 0, Value.int IntKind.i64 0, Value.string ⟨#[]⟩] 32)).alloc (Obj.cells #[Value.string ⟨#[97]⟩, Value.int IntKind.i64 8, Value.int IntKind.u32 0, Value.int IntKind.i64 3, Value.int IntKind.i64 0, Value.string ⟨#[]⟩] 32)).alloc (Obj.cells #[Value.slice (some ⟨w.heap.size + 1 + 1, 0, none⟩) 2 2, Value.slice (some ⟨w.heap.size + 1 + 1 + 1, 0, none⟩) 2 2, Value.slice (some ⟨w.heap.size + 1 + 1 + 1 + 1, 0, none⟩) 1 1, Value.slice (some ⟨w.heap.size + 1 + 1 + 1 + 1 + 1, 0, none⟩) 1 1, Value.slice (some ⟨w.heap.size + 1 + 1 + 1 + 1 + 1 + 1, 0, none⟩) 1 1] 33)) w.heap.size ∧ Below w.heap.size w ((((((((w.alloc (Obj.cells #[Value.string ⟨#[97]⟩, Value.int IntKind.i64 0, Value.int IntKind.u32 0, Value.int IntKind.i64 3, Value.int IntKind.i64 0, Value.string ⟨#[]⟩] 32)).alloc (Obj.cells #[Value.string ⟨#[98]⟩, Value.int IntKind.i64 0, Value.int IntKind.u32 0, Value.int IntKind.i64 3, Value.int IntKind.i64 0, Value.string ⟨#[]⟩] 32)).alloc (Obj.cells #[Value.string ⟨#[98]⟩, Value.int IntKind.i64 0, Value.int IntKind.u32 0, Value.int IntKind.i64 3, Value.int IntKind.i64 0, Value.string ⟨#[]⟩, Value.string ⟨#[97]⟩, Value.int IntKind.i64 0, Value.int IntKind.u32 0, Value.int IntKind.i64 3, Value.int IntKind.i64 0, Value.string ⟨#[]⟩] 32)).alloc (Obj.cells #[Value.string ⟨#[97]⟩, Value.int IntKind.i64 0, Value.int IntKind.u32 0, Value.int IntKind.i64 3, Value.int IntKind.i64 0, Value.string ⟨#[]⟩, Value.string ⟨#[97]⟩, Value.int IntKind.i64 0, Value.int IntKind.u32 0, Value.int IntKind.i64 3, Value.int IntKind.i64 0, Value.string ⟨#[]⟩] 32)).alloc (Obj.cells #[Value.string ⟨#[65]⟩, Value.int IntKind.i64 0, Value.int IntKind.u32 0, Value.int IntKind.i64 3, Value.int IntKind.i64 0, Value.string ⟨#[]⟩] 32)).alloc (Obj.cells #[Value.string ⟨#[97]⟩, Value.int IntKind.i64 0, Value.int IntKind.u32 0, Value.int IntKind.i64 0, Value.int IntKind.i64 0, Value.string ⟨#[]⟩] 32)).alloc (Obj.cells #[Value.string ⟨#[97]⟩, Value.int IntKind.i64 8, Value.int IntKind.u32 0, Value.int IntKind.i64 3, Value.int IntKind.i64 0, Value.string ⟨#[]⟩] 32)).alloc (Obj.cells #[Value.slice (some ⟨w.heap.size + 1 + 1, 0, none⟩) 2 2, Value.slice (some ⟨w.heap.size + 1 + 1 + 1, 0, none⟩) 2 2, Value.slice (some ⟨w.heap.size + 1 + 1 + 1 + 1, 0, none⟩) 1 1, Value.slice (some ⟨w.heap.size + 1 + 1 + 1 + 1 + 1, 0, none⟩) 1 1, Value.slice (some ⟨w.heap.size + 1 + 1 + 1 + 1 + 1 + 1, 0, none⟩) 1 1] 33)) := by
  have k0 := below1 w (Obj.cells #[Value.string ⟨#[97]⟩, Value.int IntKind.i64 0, Value.int IntKind.u32 0, Value.int IntKind.i64 3, Value.int IntKind.i64 0, Value.string ⟨#[]⟩] 32)
  have z0 : (w.alloc (Obj.cells #[Value.string ⟨#[97]⟩, Value.int IntKind.i64 0, Value.int IntKind.u32 0, Value.int IntKind.i64 3, Value.int IntKind.i64 0, Value.string ⟨#[]⟩] 32)).heap.size = w.heap.size + 1 := by simp
  have L := Bk.new w 32 #[Value.string ⟨#[97]⟩, Value.int IntKind.i64 0, Value.int IntKind.u32 0, Value.int IntKind.i64 3, Value.int IntKind.i64 0, Value.string ⟨#[]⟩]
  have B0 : Below w.heap.size w (w.alloc (Obj.cells #[Value.string ⟨#[97]⟩, Value.int IntKind.i64 0, Value.int IntKind.u32 0, Value.int IntKind.i64 3, Value.int IntKind.i64 0, Value.string ⟨#[]⟩] 32)) := k0
  generalize w.alloc (Obj.cells #[Value.string ⟨#[97]⟩, Value.int IntKind.i64 0, Value.int IntKind.u32 0, Value.int IntKind.i64 3, Value.int IntKind.i64 0, Value.string ⟨#[]⟩] 32) = u1 at *
  have k1 := below1 u1 (Obj.cells #[Value.string ⟨#[98]⟩, Value.int IntKind.i64 0, Value.int IntKind.u32 0, Value.int IntKind.i64 3, Value.int IntKind.i64 0, Value.string ⟨#[]⟩] 32)
  have z1 : (u1.alloc (Obj.cells #[Value.string ⟨#[98]⟩, Value.int IntKind.i64 0, Value.int IntKind.u32 0, Value.int IntKind.i64 3, Value.int IntKind.i64 0, Value.string ⟨#[]⟩] 32)).heap.size = w.heap.size + 1 + 1 := by simp [z0]
  replace L := L.keep k1
  have B1 : Below w.heap.size w (u1.alloc (Obj.cells #[Value.string ⟨#[98]⟩, Value.int IntKind.i64 0, Value.int IntKind.u32 0, Value.int IntKind.i64 3, Value.int IntKind.i64 0, Value.string ⟨#[]⟩] 32)) := below_below B0 k1
  generalize u1.alloc (Obj.cells #[Value.string ⟨#[98]⟩, Value.int IntKind.i64 0, Value.int IntKind.u32 0, Value.int IntKind.i64 3, Value.int IntKind.i64 0, Value.string ⟨#[]⟩] 32) = u2 at *
  have k2 := below1 u2 (Obj.cells #[Value.string ⟨#[98]⟩, Value.int IntKind.i64 0, Value.int IntKind.u32 0, Value.int IntKind.i64 3, Value.int IntKind.i64 0, Value.string ⟨#[]⟩, Value.string ⟨#[97]⟩, Value.int IntKind.i64 0, Value.int IntKind.u32 0, Value.int IntKind.i64 3, Value.int IntKind.i64 0, Value.string ⟨#[]⟩] 32)
  have z2 : (u2.alloc (Obj.cells #[Value.string ⟨#[98]⟩, Value.int IntKind.i64 0, Value.int IntKind.u32 0, Value.int IntKind.i64 3, Value.int IntKind.i64 0, Value.string ⟨#[]⟩, Value.string ⟨#[97]⟩, Value.int IntKind.i64 0, Value.int IntKind.u32 0, Value.int IntKind.i64 3, Value.int IntKind.i64 0, Value.string ⟨#[]⟩] 32)).heap.size = w.heap.size + 1 + 1 + 1 := by simp [z1]
  replace L := L.keep k2
  have E0 := El.made u2 (badL 0) #[Value.string ⟨#[98]⟩, Value.int IntKind.i64 0, Value.int IntKind.u32 0, Value.int IntKind.i64 3, Value.int IntKind.i64 0, Value.string ⟨#[]⟩, Value.string ⟨#[97]⟩, Value.int IntKind.i64 0, Value.int IntKind.u32 0, Value.int IntKind.i64 3, Value.int IntKind.i64 0, Value.string ⟨#[]⟩] rfl 2 rfl (by decide)
  rw [z1] at E0
  have B2 : Below w.heap.size w (u2.alloc (Obj.cells #[Value.string ⟨#[98]⟩, Value.int IntKind.i64 0, Value.int IntKind.u32 0, Value.int IntKind.i64 3, Value.int IntKind.i64 0, Value.string ⟨#[]⟩, Value.string ⟨#[97]⟩, Value.int IntKind.i64 0, Value.int IntKind.u32 0, Value.int IntKind.i64 3, Value.int IntKind.i64 0, Value.string ⟨#[]⟩] 32)) := below_below B1 k2
  generalize u2.alloc (Obj.cells #[Value.string ⟨#[98]⟩, Value.int IntKind.i64 0, Value.int IntKind.u32 0, Value.int IntKind.i64 3, Value.int IntKind.i64 0, Value.string ⟨#[]⟩, Value.string ⟨#[97]⟩, Value.int IntKind.i64 0, Value.int IntKind.u32 0, Value.int IntKind.i64 3, Value.int IntKind.i64 0, Value.string ⟨#[]⟩] 32) = u3 at *
  have k3 := below1 u3 (Obj.cells #[Value.string ⟨#[97]⟩, Value.int IntKind.i64 0, Value.int IntKind.u32 0, Value.int IntKind.i64 3, Value.int IntKind.i64 0, Value.string ⟨#[]⟩, Value.string ⟨#[97]⟩, Value.int IntKind.i64 0, Value.int IntKind.u32 0, Value.int IntKind.i64 3, Value.int IntKind.i64 0, Value.string ⟨#[]⟩] 32)
  have z3 : (u3.alloc (Obj.cells #[Value.string ⟨#[97]⟩, Value.int IntKind.i64 0, Value.int IntKind.u32 0, Value.int IntKind.i64 3, Value.int IntKind.i64 0, Value.string ⟨#[]⟩, Value.string ⟨#[97]⟩, Value.int IntKind.i64 0, Value.int IntKind.u32 0, Value.int IntKind.i64 3, Value.int IntKind.i64 0, Value.string ⟨#[]⟩] 32)).heap.size = w.heap.size + 1 + 1 + 1 + 1 := by simp [z2]
  replace L := L.keep k3
  replace E0 := E0.keep k3
  have E1 := El.made u3 (badL 1) #[Value.string ⟨#[97]⟩, Value.int IntKind.i64 0, Value.int IntKind.u32 0, Value.int IntKind.i64 3, Value.int IntKind.i64 0, Value.string ⟨#[]⟩, Value.string ⟨#[97]⟩, Value.int IntKind.i64 0, Value.int IntKind.u32 0, Value.int IntKind.i64 3, Value.int IntKind.i64 0, Value.string ⟨#[]⟩] rfl 2 rfl (by decide)
  rw [z2] at E1
  have B3 : Below w.heap.size w (u3.alloc (Obj.cells #[Value.string ⟨#[97]⟩, Value.int IntKind.i64 0, Value.int IntKind.u32 0, Value.int IntKind.i64 3, Value.int IntKind.i64 0, Value.string ⟨#[]⟩, Value.string ⟨#[97]⟩, Value.int IntKind.i64 0, Value.int IntKind.u32 0, Value.int IntKind.i64 3, Value.int IntKind.i64 0, Value.string ⟨#[]⟩] 32)) := below_below B2 k3
  generalize u3.alloc (Obj.cells #[Value.string ⟨#[97]⟩, Value.int IntKind.i64 0, Value.int IntKind.u32 0, Value.int IntKind.i64 3, Value.int IntKind.i64 0, Value.string ⟨#[]⟩, Value.string ⟨#[97]⟩, Value.int IntKind.i64 0, Value.int IntKind.u32 0, Value.int IntKind.i64 3, Value.int IntKind.i64 0, Value.string ⟨#[]⟩] 32) = u4 at *
  have k4 := below1 u4 (Obj.cells #[Value.string ⟨#[65]⟩, Value.int IntKind.i64 0, Value.int IntKind.u32 0, Value.int IntKind.i64 3, Value.int IntKind.i64 0, Value.string ⟨#[]⟩] 32)
  have z4 : (u4.alloc (Obj.cells #[Value.string ⟨#[65]⟩, Value.int IntKind.i64 0, Value.int IntKind.u32 0, Value.int IntKind.i64 3, Value.int IntKind.i64 0, Value.string ⟨#[]⟩] 32)).heap.size = w.heap.size + 1 + 1 + 1 + 1 + 1 := by simp [z3]
  replace L := L.keep k4
  replace E0 := E0.keep k4
  replace E1 := E1.keep k4
  have E2 := El.made u4 (badL 2) #[Value.string ⟨#[65]⟩, Value.int IntKind.i64 0, Value.int IntKind.u32 0, Value.int IntKind.i64 3, Value.int IntKind.i64 0, Value.string ⟨#[]⟩] rfl 1 rfl (by decide)
  rw [z3] at E2
  have B4 : Below w.heap.size w (u4.alloc (Obj.cells #[Value.string ⟨#[65]⟩, Value.int IntKind.i64 0, Value.int IntKind.u32 0, Value.int IntKind.i64 3, Value.int IntKind.i64 0, Value.string ⟨#[]⟩] 32)) := below_below B3 k4
  generalize u4.alloc (Obj.cells #[Value.string ⟨#[65]⟩, Value.int IntKind.i64 0, Value.int IntKind.u32 0, Value.int IntKind.i64 3, Value.int IntKind.i64 0, Value.string ⟨#[]⟩] 32) = u5 at *
  have k5 := below1 u5 (Obj.cells #[Value.string ⟨#[97]⟩, Value.int IntKind.i64 0, Value.int IntKind.u32 0, Value.int IntKind.i64 0, Value.int IntKind.i64 0, Value.string ⟨#[]⟩] 32)
  have z5 : (u5.alloc (Obj.cells #[Value.string ⟨#[97]⟩, Value.int IntKind.i64 0, Value.int IntKind.u32 0, Value.int IntKind.i64 0, Value.int IntKind.i64 0, Value.string ⟨#[]⟩] 32)).heap.size = w.heap.size + 1 + 1 + 1 + 1 + 1 + 1 := by simp [z4]
  replace L := L.keep k5
  replace E0 := E0.keep k5
  replace E1 := E1.keep k5
  replace E2 := E2.keep k5
  have E3 := El.made u5 (badL 3) #[Value.string ⟨#[97]⟩, Value.int IntKind.i64 0, Value.int IntKind.u32 0, Value.int IntKind.i64 0, Value.int IntKind.i64 0, Value.string ⟨#[]⟩] rfl 1 rfl (by decide)
  rw [z4] at E3
  have B5 : Below w.heap.size w (u5.alloc (Obj.cells #[Value.string ⟨#[97]⟩, Value.int IntKind.i64 0, Value.int IntKind.u32 0, Value.int IntKind.i64 0, Value.int IntKind.i64 0, Value.string ⟨#[]⟩] 32)) := below_below B4 k5
  generalize u5.alloc (Obj.cells #[Value.string ⟨#[97]⟩, Value.int IntKind.i64 0, Value.int IntKind.u32 0, Value.int IntKind.i64 0, Value.int IntKind.i64 0, Value.string ⟨#[]⟩] 32) = u6 at *
  have k6 := below1 u6 (Obj.cells #[Value.string ⟨#[97]⟩, Value.int IntKind.i64 8, Value.int IntKind.u32 0, Value.int IntKind.i64 3, Value.int IntKind.i64 0, Value.string ⟨#[]⟩] 32)
  have z6 : (u6.alloc (Obj.cells #[Value.string ⟨#[97]⟩, Value.int IntKind.i64 8, Value.int IntKind.u32 0, Value.int IntKind.i64 3, Value.int IntKind.i64 0, Value.string ⟨#[]⟩] 32)).heap.size = w.heap.size + 1 + 1 + 1 + 1 + 1 + 1 + 1 := by simp [z5]
  replace L := L.keep k6
  replace E0 := E0.keep k6
  replace E1 := E1.keep k6
  replace E2 := E2.keep k6
  replace E3 := E3.keep k6
  have E4 := El.made u6 (badL 4) #[Value.string ⟨#[97]⟩, Value.int IntKind.i64 8, Value.int IntKind.u32 0, Value.int IntKind.i64 3, Value.int IntKind.i64 0, Value.string ⟨#[]⟩] rfl 1 rfl (by decide)
  rw [z5] at E4
  have B6 : Below w.heap.size w (u6.alloc (Obj.cells #[Value.string ⟨#[97]⟩, Value.int IntKind.i64 8, Value.int IntKind.u32 0, Value.int IntKind.i64 3, Value.int IntKind.i64 0, Value.string ⟨#[]⟩] 32)) := below_below B5 k6
  generalize u6.alloc (Obj.cells #[Value.string ⟨#[97]⟩, Value.int IntKind.i64 8, Value.int IntKind.u32 0, Value.int IntKind.i64 3, Value.int IntKind.i64 0, Value.string ⟨#[]⟩] 32) = u7 at *
  have k7 := below1 u7 (Obj.cells #[Value.slice (some ⟨w.heap.size + 1 + 1, 0, none⟩) 2 2, Value.slice (some ⟨w.heap.size + 1 + 1 + 1, 0, none⟩) 2 2, Value.slice (some ⟨w.heap.size + 1 + 1 + 1 + 1, 0, none⟩) 1 1, Value.slice (some ⟨w.heap.size + 1 + 1 + 1 + 1 + 1, 0, none⟩) 1 1, Value.slice (some ⟨w.heap.size + 1 + 1 + 1 + 1 + 1 + 1, 0, none⟩) 1 1] 33)
  have V := Bk.new u7 33 #[Value.slice (some ⟨w.heap.size + 1 + 1, 0, none⟩) 2 2, Value.slice (some ⟨w.heap.size + 1 + 1 + 1, 0, none⟩) 2 2, Value.slice (some ⟨w.heap.size + 1 + 1 + 1 + 1, 0, none⟩) 1 1, Value.slice (some ⟨w.heap.size + 1 + 1 + 1 + 1 + 1, 0, none⟩) 1 1, Value.slice (some ⟨w.heap.size + 1 + 1 + 1 + 1 + 1 + 1, 0, none⟩) 1 1]
  rw [z6] at V
  refine ⟨⟨L.keep k7, fun k hk => ?_⟩, below_below B6 k7⟩
  match k, hk with
  | 0, _ => exact ⟨some ⟨w.heap.size + 1 + 1, 0, none⟩, 2, by rw [V.cell 0]; rfl, E0.keep k7⟩
  | 1, _ => exact ⟨some ⟨w.heap.size + 1 + 1 + 1, 0, none⟩, 2, by rw [V.cell 1]; rfl, E1.keep k7⟩
  | 2, _ => exact ⟨some ⟨w.heap.size + 1 + 1 + 1 + 1, 0, none⟩, 1, by rw [V.cell 2]; rfl, E2.keep k7⟩
  | 3, _ => exact ⟨some ⟨w.heap.size + 1 + 1 + 1 + 1 + 1, 0, none⟩, 1, by rw [V.cell 3]; rfl, E3.keep k7⟩
  | 4, _ => exact ⟨some ⟨w.heap.size + 1 + 1 + 1 + 1 + 1 + 1, 0, none⟩, 1, by rw [V.cell 4]; rfl, E4.keep k7⟩

end Go.Proofs.Ytibnjhnecfcimab
