/- The bytes of words and of a number. -/
import Derived.Test.YteefpbeglmnilaaDoorTi
namespace Go.Proofs.YteefpbeglmnilaaDoor
open Go.RowKit
set_option linter.unusedVariables false

theorem und28 : Tryd.prog.underlying 24 = some (.array 32 5) := by kernel_rfl
theorem info28 : (Tryd.prog.info? 24).map (·.size) = some 32 := by kernel_rfl
theorem und55 : Tryd.prog.underlying 74 = some (.array 8 5) := by kernel_rfl
theorem info55 : (Tryd.prog.info? 74).map (·.size) = some 8 := by kernel_rfl
theorem bs_one (l : List Int) : (bs l).toArray.all (·.oneCell') = true := all_oneCell_toArray (fun v hv => by
  obtain ⟨_, _, rfl⟩ := List.mem_map.1 hv
  rfl)
theorem bs_set (l : List Int) (i : Nat) (x : Int) : (bs l).set i (.int .u8 x) = bs (l.set i x) := by simp [bs, List.map_set]

/-- Behind k rounds. -/
def Sha.upto (l : List Int) (n k : Nat) : List Int := l.take k ++ List.replicate (n - k) 0
theorem upto_set (l : List Int) (n k : Nat) (hl : l.length = n) (hk : k < n) : (Sha.upto l n k).set k (l.getD k 0) = Sha.upto l n (k + 1) := by
  unfold Sha.upto
  rw [List.set_append_right _ _ (by rw [List.length_take]; omega), List.length_take, show k - min k l.length = 0 by omega, show n - k = (n - (k + 1)) + 1 by omega, List.replicate_succ, List.set_cons_zero]
  rw [List.take_succ_eq_append_getElem (by omega), List.append_assoc, List.getD_eq_getElem?_getD, List.getElem?_eq_getElem (by omega)]
  rfl
theorem upto_len (l : List Int) (n k : Nat) (hl : l.length = n) (hk : k ≤ n) : (Sha.upto l n k).length = n := by
  unfold Sha.upto; simp; omega
theorem upto_all (l : List Int) (n : Nat) (hl : l.length = n) : Sha.upto l n n = l := by
  unfold Sha.upto; rw [List.take_of_length_le (by omega)]; simp

/-- The other way round. -/
def Sha.downto (l : List Int) (n k : Nat) : List Int := List.replicate (n - k) 0 ++ l.drop (n - k)
theorem downto_set (l : List Int) (n k : Nat) (hl : l.length = n) (hk : k < n) : (Sha.downto l n k).set (n - 1 - k) (l.getD (n - 1 - k) 0) = Sha.downto l n (k + 1) := by
  unfold Sha.downto
  obtain ⟨m, hm⟩ : ∃ m, n - k = m + 1 := ⟨n - k - 1, by omega⟩
  rw [show n - 1 - k = m by omega, show n - (k + 1) = m by omega, hm, List.replicate_succ']
  rw [List.append_assoc, List.set_append_right _ _ (by simp), List.length_replicate, Nat.sub_self]
  rw [List.drop_eq_getElem_cons (i := m) (by omega), List.getD_eq_getElem?_getD, List.getElem?_eq_getElem (by omega)]
  rfl
theorem downto_len (l : List Int) (n k : Nat) (hl : l.length = n) (hk : k ≤ n) : (Sha.downto l n k).length = n := by
  unfold Sha.downto; simp; omega
theorem downto_all (l : List Int) (n : Nat) : Sha.downto l n n = l := by
  unfold Sha.downto; simp

theorem hi8_at (m k : Nat) (hk : k < 8) : (Sha.hi8 m).getD (7 - k) 0 = ((m / 2 ^ (8 * k) % 256 : Nat) : Int) := by
  match k, hk with
  | 0, _ | 1, _ | 2, _ | 3, _ | 4, _ | 5, _ | 6, _ | 7, _ => simp [Sha.hi8]
theorem b32_len (r : Sha.R) : (Sha.b32 r).length = 32 := rfl
theorem hi8_len (m : Nat) : (Sha.hi8 m).length = 8 := rfl
theorem b4_at (x : BitVec 32) (k : Nat) (hk : k < 4) : (Sha.b4 x).getD k 0 = ((x.toNat / 2 ^ (8 * (3 - k)) % 256 : Nat) : Int) := by
  match k, hk with
  | 0, _ | 1, _ | 2, _ | 3, _ => simp [Sha.b4]
theorem b32_q (r : Sha.R) (i k : Nat) (hi : i < 8) (hk : k < 4) : (Sha.b32 r).getD (4 * i + k) 0 = (Sha.b4 (Sha.at_ r.list i)).getD k 0 := by
  match i, hi with
  | 0, _ | 1, _ | 2, _ | 3, _ | 4, _ | 5, _ | 6, _ | 7, _ =>
    match k, hk with
    | 0, _ | 1, _ | 2, _ | 3, _ => rfl
theorem b32_at (r : Sha.R) (k : Nat) (hk : k < 32) : (Sha.b32 r).getD k 0 = (((Sha.at_ r.list (k / 4)).toNat / 2 ^ (8 * (3 - k % 4)) % 256 : Nat) : Int) := by
  have h := b32_q r (k / 4) (k % 4) (by omega) (by omega)
  rw [show 4 * (k / 4) + k % 4 = k by omega] at h
  rw [h, b4_at _ _ (by omega)]

structure ByW (w wr : World) (t : TypeId) (n : Nat) (l : List Int) : Prop where
  bel : Below w.heap.size w wr
  res : Row wr w.heap.size t (bs (List.replicate n 0))
  out : Row wr (w.heap.size + 1) t (bs l)
  len : l.length = n

theorem ByW.set {w wr : World} {t : TypeId} {n : Nat} {l : List Int} (h : ByW w wr t n l) (i : Nat) (x : Int) : ByW w (wr.setCell ⟨w.heap.size + 1, i, none⟩ (.int .u8 x)) t n (l.set i x) :=
  ⟨below_setCell h.bel _ _ (Nat.le_succ _), h.res.other _ _ (by simp), by rw [← bs_set]; exact h.out.set _ _, by rw [List.length_set]; exact h.len⟩

set_option maxRecDepth 100000 in
set_option maxHeartbeats 1000000 in
theorem highest_ok (m : Nat) (w : World) :
    Calls Tryd.prog 34 #[.int .u64 (m : Int)] w fun e w' => e = .returned (.agg (bs (Sha.hi8 m)).toArray) ∧ Below w.heap.size w w' := by
  go_enter Tryd.func34, Tryd.ntmps34
  go_wp2_with fail
  generalize hw0 : World.alloc (World.alloc w _) _ = w0
  have S0 : Hid (ByW w w0 74 8 (Sha.downto (Sha.hi8 m) 8 0)) := by
    subst hw0
    refine ⟨((Below.refl _ _).alloc (Nat.le_refl _) _).alloc (by simp) _, ?_, ?_, rfl⟩
    · exact (Row.new w 74 (bs (List.replicate 8 0))).alloc _
    · have h := Row.new (World.alloc w (.cells (bs (List.replicate 8 0)).toArray 74)) 74 (bs (List.replicate 8 0))
      simp only [World.size_alloc] at h
      exact h
  clear hw0
  go_loopw [5] (fun i wr => ∃ k : Nat, k ≤ 8 ∧ i = .int .i64 (k : Int) ∧ ByW w wr 74 8 (Sha.downto (Sha.hi8 m) 8 k)) (fun i _ => 8 - (intOf i).toNat)
  case atStart => exact ⟨0, Nat.zero_le _, rfl, S0.out⟩
  case round =>
    clear S0 w0
    obtain ⟨k, hk, rfl, hs⟩ := hrel
    have HS := hd hs
    clear hs
    by_cases hlt : k < 8
    · have hlt' : (k : Int) < 8 := by omega
      have HE := hd (downto_set (Sha.hi8 m) 8 k rfl hlt)
      rw [show 8 - 1 - k = 7 - k by omega, hi8_at m k hlt] at HE
      have c1 := HS.out.out.cell (7 - k) (.int .u8 0) (by rw [bs_len, HS.out.len]; omega)
      have f1 := HS.out.out.frozen (7 - k)
      generalize (bs (Sha.downto (Sha.hi8 m) 8 k)).getD (7 - k) (.int .u8 0) = old at c1
      have e1 : IntKind.i64.wrap (7 - (k : Int)) = ((7 - k : Nat) : Int) := by rw [IntKind.wrap_i64]; omega
      have e2 : IntKind.i64.wrap (8 * (k : Int)) = ((8 * k : Nat) : Int) := by rw [IntKind.wrap_i64]; omega
      have e3 : (m : Int) / 2 ^ (((8 * k : Nat) : Int)).toNat = ((m / 2 ^ (8 * k) : Nat) : Int) := by rw [Int.toNat_natCast, Int.natCast_ediv, Int.natCast_pow]; rfl
      have e4 : IntKind.u8.wrap ((m / 2 ^ (8 * k) : Nat) : Int) = ((m / 2 ^ (8 * k) % 256 : Nat) : Int) := by rw [IntKind.wrap_u8]; omega
      have b1 : (0 : Int) ≤ ((8 * k : Nat) : Int) := by omega
      have b2 : ((8 * k : Nat) : Int) ≤ 64 := by omega
      have b3 : ((7 - k : Nat) : Int) < 8 := by omega
      generalize ((m / 2 ^ (8 * k) % 256 : Nat) : Int) = y at *
      generalize ((m / 2 ^ (8 * k) : Nat) : Int) = z at *
      generalize ((8 * k : Nat) : Int) = s at *
      generalize (m : Int) = μ at *
      generalize 7 - k = j at *
      go_wp2_with fail
      go_roundw
      case rel => exact ⟨k + 1, by omega, by go_num, by rw [← HE.out]; exact HS.out.set _ _⟩
      case measure => simp [intOf]; omega
    · have hk8 : k = 8 := by omega
      subst hk8
      rw [downto_all] at HS
      generalize hz : Sha.hi8 m = z at *
      have HZ := hd hz
      have LZ := hd HS.out.len
      clear hz
      go_wp2_with (first
        | refine wpList_load_row rfl 74 _ rfl (w.heap.size + 1) rfl 74 (bs z).toArray (0, 0) _ HS.out.out und55 rfl (by rw [List.size_toArray, bs_len, LZ.out]; exact info55) ?_
        | refine wpList_store_row rfl 74 _ _ rfl w.heap.size (bs z).toArray rfl rfl 74 _ HS.out.res (by rw [List.size_toArray, bs_len, LZ.out]; exact info55) (by simp only [List.size_toArray, bs_len, LZ.out, List.length_replicate]) (bs_one z) ?_)
      refine bodyPost_ret (v := .agg (bs z).toArray) ?_ rfl ⟨by rw [HZ.out], ?_⟩
      · exact results_cell_row (P := Tryd.prog) (fn := Tryd.f34) (p := 2) (ty := 74) (by kernel_rfl) _ _ w.heap.size 74 (bs z).toArray (0, 0) _ rfl (HS.out.res.put (us := bs z)) und55 rfl (by rw [List.size_toArray, bs_len, LZ.out]; exact info55)
      · exact below_setRow HS.out.bel _ _ (Nat.le_refl _)

set_option maxRecDepth 100000 in
set_option maxHeartbeats 1000000 in
theorem bytes_ok (b : Nat) (w : World) (r : Sha.R) (K : List (BitVec 32)) (p : List Int) (s : Int) (h : Row w b 70 (kn r K p s)) :
    Calls Tryd.prog 35 #[.pointer (some ⟨b, 1, none⟩)] w fun e w' => e = .returned (.agg (bs (Sha.b32 r)).toArray) ∧ Below w.heap.size w w' := by
  have H := hd h
  clear h
  go_enter Tryd.func35, Tryd.ntmps35
  go_wp2_with fail
  generalize hw0 : World.alloc (World.alloc w _) _ = w0
  have S0 : Hid (ByW w w0 24 32 (Sha.upto (Sha.b32 r) 32 0)) := by
    subst hw0
    refine ⟨((Below.refl _ _).alloc (Nat.le_refl _) _).alloc (by simp) _, ?_, ?_, rfl⟩
    · exact (Row.new w 24 (bs (List.replicate 32 0))).alloc _
    · have h := Row.new (World.alloc w (.cells (bs (List.replicate 32 0)).toArray 24)) 24 (bs (List.replicate 32 0))
      simp only [World.size_alloc] at h
      exact h
  clear hw0
  go_loopw [5] (fun i wr => ∃ k : Nat, k ≤ 32 ∧ i = .int .i64 (k : Int) ∧ ByW w wr 24 32 (Sha.upto (Sha.b32 r) 32 k)) (fun i _ => 32 - (intOf i).toNat)
  case atStart => exact ⟨0, Nat.zero_le _, rfl, S0.out⟩
  case round =>
    clear S0 w0
    obtain ⟨k, hk, rfl, hs⟩ := hrel
    have HS := hd hs
    clear hs
    by_cases hlt : k < 32
    · have hlt' : (k : Int) < 32 := by omega
      have HE := hd (upto_set (Sha.b32 r) 32 k rfl hlt)
      rw [b32_at r k hlt] at HE
      have c1 := HS.out.out.cell k (.int .u8 0) (by rw [bs_len, HS.out.len]; omega)
      have f1 := HS.out.out.frozen k
      generalize (bs (Sha.upto (Sha.b32 r) 32 k)).getD k (.int .u8 0) = old at c1
      have c2 := (H.out.keep HS.out.bel H.out.lt).get (kn_word r K p s (k / 4) (by omega))
      generalize (Sha.at_ r.list (k / 4)).toNat = x at *
      have e0 : (k : Int).tdiv 4 = ((k / 4 : Nat) : Int) := by rw [Int.tdiv_eq_ediv_of_nonneg (by omega)]; omega
      have e1 : (k : Int).tmod 4 = ((k % 4 : Nat) : Int) := by rw [Int.tmod_eq_emod_of_nonneg (by omega)]; omega
      have e2 : IntKind.i64.wrap (3 - ((k % 4 : Nat) : Int)) = ((3 - k % 4 : Nat) : Int) := by rw [IntKind.wrap_i64]; omega
      have e3 : IntKind.i64.wrap (8 * ((3 - k % 4 : Nat) : Int)) = ((8 * (3 - k % 4) : Nat) : Int) := by rw [IntKind.wrap_i64]; omega
      have e4 : (x : Int) / 2 ^ (((8 * (3 - k % 4) : Nat) : Int)).toNat = ((x / 2 ^ (8 * (3 - k % 4)) : Nat) : Int) := by rw [Int.toNat_natCast, Int.natCast_ediv, Int.natCast_pow]; rfl
      have e5 : IntKind.u8.wrap ((x / 2 ^ (8 * (3 - k % 4)) : Nat) : Int) = ((x / 2 ^ (8 * (3 - k % 4)) % 256 : Nat) : Int) := by rw [IntKind.wrap_u8]; omega
      have b1 : (0 : Int) ≤ ((8 * (3 - k % 4) : Nat) : Int) := by omega
      have b2 : ((8 * (3 - k % 4) : Nat) : Int) ≤ 32 := by omega
      have b3 : ((k / 4 : Nat) : Int) < 8 := by omega
      generalize ((x / 2 ^ (8 * (3 - k % 4)) % 256 : Nat) : Int) = y at *
      generalize ((x / 2 ^ (8 * (3 - k % 4)) : Nat) : Int) = z at *
      generalize ((8 * (3 - k % 4) : Nat) : Int) = s1 at *
      generalize ((3 - k % 4 : Nat) : Int) = s2 at *
      generalize ((k % 4 : Nat) : Int) = s3 at *
      generalize k / 4 = q at *
      generalize (x : Int) = ξ at *
      go_wp2_with fail
      go_roundw
      case rel => exact ⟨k + 1, by omega, by go_num, by rw [← HE.out]; exact HS.out.set _ _⟩
      case measure => simp [intOf]; omega
    · have hk8 : k = 32 := by omega
      subst hk8
      rw [upto_all (Sha.b32 r) 32 rfl] at HS
      generalize hz : Sha.b32 r = z at *
      have HZ := hd hz
      have LZ := hd HS.out.len
      clear hz
      go_wp2_with (first
        | refine wpList_load_row rfl 24 _ rfl (w.heap.size + 1) rfl 24 (bs z).toArray (0, 0) _ HS.out.out und28 rfl (by rw [List.size_toArray, bs_len, LZ.out]; exact info28) ?_
        | refine wpList_store_row rfl 24 _ _ rfl w.heap.size (bs z).toArray rfl rfl 24 _ HS.out.res (by rw [List.size_toArray, bs_len, LZ.out]; exact info28) (by simp only [List.size_toArray, bs_len, LZ.out, List.length_replicate]) (bs_one z) ?_)
      refine bodyPost_ret (v := .agg (bs z).toArray) ?_ rfl ⟨by rw [HZ.out], ?_⟩
      · exact results_cell_row (P := Tryd.prog) (fn := Tryd.f35) (p := 2) (ty := 24) (by kernel_rfl) _ _ w.heap.size 24 (bs z).toArray (0, 0) _ rfl (HS.out.res.put (us := bs z)) und28 rfl (by rw [List.size_toArray, bs_len, LZ.out]; exact info28)
      · exact below_setRow HS.out.bel _ _ (Nat.le_refl _)

end Go.Proofs.YteefpbeglmnilaaDoor
