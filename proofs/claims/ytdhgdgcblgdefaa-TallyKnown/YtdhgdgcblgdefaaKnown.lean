/- TallyKnown: the closed law answers true; no conditions. -/
import Derived.Test.YtdhgdgcblgdefaaX8
import Derived.Test.YtdhgdgcblgdefaaRows
import Derived.ProofKit
import Derived.OpenShut
import Derived.ShutString
import Derived.ChangeOld
import Derived.Maps.Own
import Derived.Maps.OwnOps
import Derived.Maps.OwnSet
import Derived.Maps.Views
namespace Go.Proofs.Ytdhgdgcblgdefaa.tallyKnown
open Go.ChangeShapes Go.WideShapes Go.ChangeAt Go.RowKit
open Go.ChangeMaps (open_string shut_string)
set_option linter.unusedVariables false
open Go.Maps

theorem law22 : Keyed Try.prog 22 := int_keyed Try.underlying22
theorem zero3 (w : World) : (zeroValue 3).run Try.prog w = .ok (.int .i64 0) w := by kernel_rfl
theorem und36 : Try.prog.underlying 36 = some (.map 22 3) := by kernel_rfl

/-- The sum of one byte. -/
def sm (i : Nat) : Int := ((Crc.on 0#32 [(i : Int)]).toNat : Int)

theorem sm_bd (i : Nat) : 0 ≤ sm i ∧ sm i < 4294967296 := by
  unfold sm
  have := (Crc.on 0#32 [(i : Int)]).isLt
  omega

theorem byt1 (i : Nat) (h : i < 256) : Byt [(i : Int)] := by
  intro y hy
  simp only [List.mem_cons, List.not_mem_nil, or_false] at hy
  omega

theorem sm_inj (i k : Nat) (hi : i < 256) (hk : k < 256) (h : sm i = sm k) : i = k := by
  unfold sm at h
  have h1 := BitVec.eq_of_toNat_eq (Int.ofNat.inj h)
  unfold Crc.on at h1
  have h2 := Crc.not_inj _ _ h1
  rw [Crc.feed _ _ (byt1 i hi) (by simp), Crc.feed _ _ (byt1 k hk) (by simp)] at h2
  have h3 := Crc.stn_inj _ _ _ h2
  have h4 : BitVec.ofNat 32 (Crc.wd [(i : Int)]) = BitVec.ofNat 32 (Crc.wd [(k : Int)]) := by
    have := congrArg (fun x => ~~~ 0#32 ^^^ x) h3
    simp only [← BitVec.xor_assoc, BitVec.xor_self, BitVec.zero_xor] at this
    exact this
  have h5 := congrArg BitVec.toNat h4
  simp only [Crc.wd, Int.toNat_natCast, Nat.mul_zero, Nat.add_zero, BitVec.toNat_ofNat] at h5
  omega

def key (i : Nat) : Lit := .int .u32 (sm i)
def one1 : DataW Unit := .lit (.int .i64 1)
/-- The map behind k rounds. -/
def C (k : Nat) : DataW Unit := setOf one1 ((List.range k).map key)

theorem C_succ (k : Nat) : C (k + 1) = (C k).put (key k) one1 := by
  unfold C
  rw [List.range_succ, List.map_append, List.map_singleton, setOf_snoc]

theorem isKey (k : Nat) : ∀ x ∈ (List.range k).map key, WideAt.IsKeyLit x := by
  intro x hx
  obtain ⟨i, _, rfl⟩ := List.mem_map.1 hx
  trivial

theorem C_has (k : Nat) (hk : k < 256) : Maps.has (C k) (key k) = false := by
  unfold C
  rw [has_setOf _ _ _ (isKey k), List.any_eq_false]
  intro x hx
  obtain ⟨i, hi, rfl⟩ := List.mem_map.1 hx
  rw [List.mem_range] at hi
  rw [sameKey_ne (fun e => by
    unfold key at e
    simp only [Lit.int.injEq, true_and] at e
    have := sm_inj i k (by omega) hk e
    omega)]
  simp

theorem C_size (k : Nat) (hk : k ≤ 256) : Maps.size (C k) = k := by
  induction k with
  | zero => rfl
  | succ k ih =>
    have ht : Tidy (C k) := tidy_setOf _ _ (isKey k)
    rw [C_succ, size_put ht, C_has k (by omega), ih (by omega)]
    simp

theorem look0 {k : Nat} {c : Int} (h : Maps.has (C k) (key k) = false) (hat : (C k).atKey (.int .u32 (sm k)) (.lit (.int .i64 0)) = .lit (.int .i64 c)) : c = 0 := by
  have h1 := atKey_of_not_has (D := C k) (k := key k) h (.lit (.int .i64 0))
  unfold key at h1
  rw [h1] at hat
  simp only [DataW.lit.injEq, Lit.int.injEq, true_and] at hat
  exact hat.symm

theorem madeN (n : Nat) : madeCells #[.int .u8 0] n = u8s (List.replicate n 0) := by
  apply Array.ext
  · simp [madeCells, u8s]
  · intro i h1 h2
    simp [madeCells, u8s, Nat.mod_one]

theorem made32 (w : World) : (Instr.makeSlice 23 (.int .i64 32) (.int .i64 32)).run Try.prog w = .ok (.slice (some ⟨w.heap.size, 0, none⟩) 32 32) (w.alloc (.cells (u8s (List.replicate 32 0)) 5)) := by
  have h := run_make5 32 (by omega) w
  rw [madeN] at h
  exact h

theorem owns_keep {w w' : World} {b n : Nat} {D : DataW Unit} (h : w.ownsMap Try.prog 22 (plainElem Try.prog 3) b n D) (k : Below w.heap.size w w') : w'.ownsMap Try.prog 22 (plainElem Try.prog 3) b n D := by
  have hlt := h.lt
  obtain ⟨es, clock, hb, F, hs, hD⟩ := h
  exact ⟨es, clock, (k.block b hlt).trans hb, F, hs, hD⟩

set_option maxRecDepth 100000 in
set_option maxHeartbeats 4000000 in
theorem walk (w : World) : Calls Try.prog 8 #[] w fun e w' => e = .returned (.bool true) ∧ Below w.heap.size w w' := by
  have kc := fun (w : World) (C : Array Value) (n c : Nat) => Lib.run_convert_bytes_const (P := Try.prog) w 23 5 C n c und23 und5
  have hmm := @run_makeMap Try.prog
  have hmk := made32
  go_enter Try.func8, Try.ntmps8
  go_wp2
  go_loopw [2] (fun i wr => ∃ k : Nat, k ≤ 256 ∧ i = .int .i64 k ∧ wr.ownsMap Try.prog 22 (plainElem Try.prog 3) w.heap.size k (C k) ∧ Below w.heap.size w wr) (fun i _ => 256 - (intOf i).toNat)
  case atStart => exact ⟨0, Nat.zero_le _, rfl, World.ownsMap_made _ _ _ _, (Below.refl _ _).alloc (Nat.le_refl _) _⟩
  case round =>
    obtain ⟨k, hk, rfl, hown, hnx⟩ := hrel
    have HO := hd hown
    have HB := hd hnx
    clear hown hnx
    by_cases hlt : k < 256
    · have hlt' : (k : Int) < 256 := by omega
      have hkey : keyOf Try.prog 22 (.int .u32 (sm k)) = some (.int .u32 (sm k)) := keyOf_int_mk Try.underlying22 (WalkArith.wf_u32 (by have := sm_bd k; omega))
      have HC := hd (C_has k hlt)
      have HKE := hd hkey
      clear hkey
      go_wp2_with fail
      refine (of_is (built wr [(k : Int)] _ rfl 1 rfl (byt1 k hlt) (by simp)).bx (sm k) rfl).mono ?_
      rintro e w1 ⟨rfl, hk1⟩
      have b1 := below_below ((Below.refl wr.heap.size wr).alloc (Nat.le_refl _) _) hk1
      have hown1 := owns_keep HO.out b1
      have HB1 := hd (below_below HB.out b1)
      clear hk1 b1 HO HB
      go_wp2_with (first
        | (at_lookup; refine wpList_lookup_own_int _ rfl _ _ 36 rfl 22 3 .i64 law22 und36 Try.underlying3 (zero3 _) w.heap.size k _ rfl hown1 _ _ rfl HKE.out ?_; intro c hat hwc; have hc0 := look0 HC.out hat; subst hc0; clear hat hwc)
        | (at_mapUpdate; refine wpList_mapUpdate_own _ rfl _ _ _ 36 rfl 22 3 law22 und36 _ w.heap.size k _ rfl hown1 (by unfold maxLen; omega) _ _ _ rfl rfl HKE.out one1 [] (plainElem_int Try.underlying3 (by decide)) ?_; intro w2 hown2 hgrow2))
      go_roundw
      case rel => exact ⟨k + 1, by omega, by go_num, (C_succ k).symm ▸ hown2, HB1.out.grown hgrow2 HB1.out.size (fun j hj => by cases hj; exact Nat.le_refl _)⟩
      case measure => simp [intOf]; omega
    · have hk256 : k = 256 := by omega
      subst hk256
      go_wp2_with fail
      refine (works_true _).mono ?_
      rintro e w1 ⟨rfl, hk1⟩
      have O1 := hd (owns_keep HO.out hk1)
      have B1 := hd (below_below HB.out hk1)
      clear hk1 HO HB
      go_wp2_with fail
      refine (of_is (builtM _ [84, 104, 101, 32, 113, 117, 105, 99, 107, 32, 98, 114, 111, 119, 110, 32, 102, 111, 120, 32, 106, 117, 109, 112, 115, 32, 111, 118, 101, 114, 32, 116, 104, 101, 32, 108, 97, 122, 121, 32, 100, 111, 103] _ rfl _ 43 rfl (byt_dec _ rfl) (by decide)).bx 1095738169 (by decide +kernel)).mono ?_
      rintro e w2 ⟨rfl, hk1⟩
      have b2 := below_below ((Below.refl w1.heap.size w1).alloc (Nat.le_refl _) _) hk1
      have O2 := hd (owns_keep O1.out b2)
      have B2 := hd (below_below B1.out b2)
      clear hk1 b2 O1 B1
      go_wp2_with fail
      refine (of_is (built _ (List.replicate 32 0) _ rfl 32 rfl (byt_dec _ rfl) (by decide)).bx 420107693 (by decide +kernel)).mono ?_
      rintro e w3 ⟨rfl, hk1⟩
      have b3 := below_below ((Below.refl w2.heap.size w2).alloc (Nat.le_refl _) _) hk1
      have O3 := owns_keep O2.out b3
      have B3 := hd (below_below B2.out b3)
      clear hk1 b3 O2 B2
      have hlen := O3.len und36 3
      rw [C_size 256 (Nat.le_refl _)] at hlen
      clear O3
      go_wp2_with fail
      go_ret
      exact ⟨rfl, B3.out⟩


theorem own : ownKnob Try.prog.godebug = none := by kernel_rfl
theorem laidOut : laidOutB Try.prog = true := by kernel_rfl

set_option maxRecDepth 100000 in
theorem lifted (os : Os) (started : os.Started) (H : Type) (enc : TypeId × Value → H) :
    ReturnsInHanded {} Try.checked os 8 .any (Rows.tallyKnownSpec.pre6 enc Try.prog Try.f8 Rows.tallyKnownRow.domain false) (Rows.tallyKnownSpec.post enc Try.prog Try.f8 false true false false) := by
  refine returnsInHanded_of_change (C := Try.checked) own started (by kernel_rfl) Try.func8
    (ChangeSpec.witness6 (enc := enc) (C := Try.checked) false ⟨#[], #[], []⟩ 8 (by kernel_rfl) (by kernel_rfl) (by kernel_rfl) (by kernel_rfl)) ?_
  intro W base args ds gs before hval0 hW hcnd _
  have hW' := hW
  obtain ⟨p, q, hA0, hV, rfl, hfz, hnd⟩ := hW
  have hA : DataW.TrodAll enc Try.prog W 0 (fun _ => true) true Try.f8.params.toList args.toList ds p := hA0
  rw [Try.params8] at hA
  obtain ⟨hargs, rfl, rfl⟩ := trodAll_nil hA
  obtain rfl : args = #[] := by cases args; simp_all
  obtain ⟨rfl, rfl⟩ := trodVars_none hV
  clear hA0 hval0
  refine (walk W).mono fun e W' ⟨he, bel⟩ => ?_
  subst he
  exact ⟨_, rfl, _, _, _, [], _, [], hW', trodAll_mk1 (shut_bool Try.underlying4 _), trodAll_mk0, rfl, bel.frame _, fun h => by cases h⟩

theorem over : Rows.tallyKnownRow.holds Try.pinned (OpenSpec.ofChange Rows.tallyKnownSpec) :=
  OpenClaim.holds_of_wide 8 Try.f8 rfl rfl rfl rfl rfl rfl rfl ⟨rfl, rfl, rfl, rfl, rfl⟩ rfl rfl rfl rfl rfl (by kernel_rfl) Try.func8 (by kernel_rfl)
    (of_decide_eq_true (by kernel_rfl)) (by unfold Func.isWrapper; first | (rw [if_pos (by decide +kernel)]; kernel_rfl) | (rw [if_neg (by decide +kernel)]; exact ⟨rfl, rfl⟩))
    (fun os started H enc _ => lifted os started H enc)

end Go.Proofs.Ytdhgdgcblgdefaa.tallyKnown
namespace Go.Proofs.Ytdhgdgcblgdefaa

/-- The statement. -/
theorem tallyKnown_proved : Rows.TallyKnownSaid := tallyKnown.over
#print axioms tallyKnown_proved
end Go.Proofs.Ytdhgdgcblgdefaa
