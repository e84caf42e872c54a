/- The reader's number, of 1 to 8 bytes that are there. -/
import Derived.Test.YteifaipbckhoiabMa
import Derived.Deep.QuietTactic
import Derived.BigQuiet
namespace Go.Proofs.Yteifaipbckhoiab
open Go.RowKit

theorem told_is (x : Int) (k : Nat) (w : World) (h0 : 0 ≤ x) (h1 : x ≤ 255) (h : Num.told x = k) :
    Calls Try.prog 65 #[.int .u8 x] w fun e w' => e = .returned (.int .i64 k) ∧ w' = w := by
  subst h; exact sizeTold_any x w h0 h1

theorem wraps_i64' (n : Int) (h₀ : 0 ≤ n) (h₁ : n < 2 ^ 63) : IntKind.i64.wrap n = n := by rw [IntKind.wrap_i64]; omega
theorem orI (a y : Int) (h0 : 0 ≤ a) (h1 : a < 281474976710656) (h2 : 0 ≤ y) (h3 : y ≤ 255) : bits BinOp.or IntKind.i64 (a * 256) y = a * 256 + y :=
  bits_join .i64 63 (by decide) wraps_i64' 8 (a * 256) y (by omega) (by omega) (by omega) h2 (by omega) (by omega)
theorem orZ (y : Int) (h2 : 0 ≤ y) (h3 : y ≤ 255) : bits BinOp.or IntKind.i64 0 y = y := by
  have := bits_join .i64 63 (by decide) wraps_i64' 8 0 y (by omega) (by omega) (by omega) h2 (by omega) (by omega)
  rw [this, Int.zero_add]

theorem and1 (x : Int) (h0 : 0 ≤ x) (h1 : x ≤ 255) : wrap64 (bits BinOp.and IntKind.u8 x 127) = x % 128 := by
  have h : bits BinOp.and IntKind.u8 x 127 = x % 128 := bits_mask .u8 8 (by decide) wraps_u8 7 (by decide) x h0 (by omega)
  rw [h]; unfold wrap64; omega
theorem and6 (x : Int) (h0 : 0 ≤ x) (h1 : x ≤ 255) : wrap64 (bits BinOp.and IntKind.u8 x 3) = x % 4 := by
  have h : bits BinOp.and IntKind.u8 x 3 = x % 4 := bits_mask .u8 8 (by decide) wraps_u8 2 (by decide) x h0 (by omega)
  rw [h]; unfold wrap64; omega
theorem and7 (x : Int) (h0 : 0 ≤ x) (h1 : x ≤ 255) : wrap64 (bits BinOp.and IntKind.u8 x 1) = x % 2 := by
  have h : bits BinOp.and IntKind.u8 x 1 = x % 2 := bits_mask .u8 8 (by decide) wraps_u8 1 (by decide) x h0 (by omega)
  rw [h]; unfold wrap64; omega
theorem and8 (x : Int) (h0 : 0 ≤ x) (h1 : x ≤ 255) : wrap64 (bits BinOp.and IntKind.u8 x 0) = 0 := by
  have h : bits BinOp.and IntKind.u8 x 0 = x % 1 := bits_mask .u8 8 (by decide) wraps_u8 0 (by decide) x h0 (by omega)
  rw [h]; unfold wrap64; omega

/-- How 'number' ends, of k bytes that are there. -/
def NumPost (w : World) (rb b off cap : Nat) (l : List Int) (k : Nat) (most : Int) (e : Ending) (w' : World) : Prop :=
  ∃ nq, ((Num.sz (Num.V l k (k - 1)) ≠ k ∨ most < Num.V l k (k - 1)) ∧ e = .returned (.tuple #[.int .i64 0, .int .i64 4]) ∧ w' = w.drewN nq) ∨
    ((Num.sz (Num.V l k (k - 1)) = k ∧ Num.V l k (k - 1) ≤ most) ∧ e = .returned (.tuple #[.int .i64 (Num.V l k (k - 1)), .int .i64 0]) ∧
      ∃ a, (k < l.length → a = some ⟨b, off + k, none⟩) ∧ (a = some ⟨b, off, none⟩ ∨ a = some ⟨b, off + k, none⟩) ∧ w' = (w.drewN nq).setCell ⟨rb, 1, none⟩ (.slice a (l.length - k) (cap - k)))

theorem NumPost.bad {w : World} {rb b off cap : Nat} {l : List Int} {k : Nat} {most : Int} (nq : Nat) (h : Num.sz (Num.V l k (k - 1)) ≠ k ∨ most < Num.V l k (k - 1)) :
    NumPost w rb b off cap l k most (.returned (.tuple #[.int .i64 0, .int .i64 4])) (w.drewN nq) := ⟨nq, Or.inl ⟨h, rfl, rfl⟩⟩

theorem NumPost.ok {w : World} {rb b off cap : Nat} {l : List Int} {k : Nat} {most : Int} (nq : Nat) (n : Int) (hn : Num.V l k (k - 1) = n) (h1 : Num.sz n = k) (h2 : n ≤ most) (a : Option Addr) (n1 n2 : Nat)
    (ha : k < l.length → a = some ⟨b, off + k, none⟩) (ha' : a = some ⟨b, off, none⟩ ∨ a = some ⟨b, off + k, none⟩) (e1 : n1 = l.length - k) (e2 : n2 = cap - k) :
    NumPost w rb b off cap l k most (.returned (.tuple #[.int .i64 n, .int .i64 0])) ((w.drewN nq).setCell ⟨rb, 1, none⟩ (.slice a n1 n2)) := by
  subst e1; subst e2; subst hn
  exact ⟨nq, Or.inr ⟨⟨h1, h2⟩, rfl, a, ha, ha', rfl⟩⟩

set_option maxHeartbeats 2000000 in
theorem number1 {w : World} {rb b off cap : Nat} {l : List Int} (most : Int)
    (hcap : l.length ≤ cap) (hc1 : w.cell? ⟨rb, 1, none⟩ = some (.slice (some ⟨b, off, none⟩) l.length cap)) (hf1 : w.frozen? ⟨rb, 1, none⟩ = false)
    (hl : Byt l) (hb : l.length ≤ 140737488355328) (hcell : ∀ i, i < l.length → w.cell? ⟨b, off + i, none⟩ = some (.int .u8 (l.getD i 0)))
    (hk : Num.told (l.getD 0 0) = 1) (hlen : 1 ≤ l.length) :
    Calls Try.prog 56 #[.pointer (some ⟨rb, 0, none⟩), .int .i64 most] w fun e w' => NumPost w rb b off cap l 1 most e w' := by
  have hz : ((l.length : Int) == 0) = false := by rw [beq_eq_false_iff_ne]; omega
  have hlt : decide ((l.length : Int) < 1) = false := by rw [decide_eq_false_iff_not]; omega
  have hx0 := (hl.get 0).1
  have hx1 := (hl.get 0).2
  have hcx := hcell 0 (by omega)
  have HK : Hid (Num.told (l.getD 0 0) = 1) := hk
  rw [Nat.add_zero] at hcx
  have hpos : (0 : Int) < (l.length : Int) := by omega
  have hlen' : (1 : Int) ≤ (l.length : Int) := by omega
  have hcap' : (l.length : Int) ≤ (cap : Int) := by omega
  clear hcell hk hl
  generalize hx : l.getD 0 0 = x at hcx HK hx0 hx1
  have HX : Hid (l.getD 0 0 = x) := hx
  clear hx 
  go_enter Try.func56, Try.ntmps56
  go_wp2_with (go_at_call 65; refine (told_is _ 1 _ hx0 hx1 HK.out).mono ?_; rintro e w' ⟨rfl, rfl⟩)
  go_quiet (fail)
  go_wp2
  rw [and1 x hx0 hx1]
  have ha0 : 0 ≤ x % 128 := by omega
  have hb0 : x % 128 < 128 := by omega
  have hE0 : Num.head 1 x = x % 128 := rfl
  generalize x % 128 = a0 at ha0 hb0 hE0 ⊢
  have HE0 : Hid (Num.head 1 x = a0) := hE0
  clear hE0
  refine wp_loop_rounds 1 ?_
  rw [rounds_succ]
  go_wp2_with fail
  refine (sizeOf_any _ _ (by omega) (by omega)).mono ?_
  rintro e w2 ⟨rfl, rfl⟩
  have HV : Hid (Num.V l 1 0 = a0) := by
    have e0 := HX.out
    have f0 := HE0.out
    show _ = _
    simp only [Num.V, e0, f0]
  by_cases hsz : Num.sz a0 = 1
  · have hq : ((Num.sz a0 : Int) != 1) = false := by rw [bne_eq_false_iff_eq, hsz]; rfl
    have HSZ : Hid (Num.sz a0 = 1) := hsz
    clear hsz
    by_cases hm : most < a0
    · go_wp2
      all_goals go_ret2
      all_goals exact NumPost.bad nq (Or.inr (by show most < Num.V l 1 0; rw [HV.out]; exact hm))
    · have hm' : a0 ≤ most := by omega
      go_wp2
      all_goals go_ret2
      · exact NumPost.ok nq a0 HV.out HSZ.out hm' _ _ _ (fun h => by omega) (Or.inl rfl) rfl (by omega)
      · exact NumPost.ok nq a0 HV.out HSZ.out hm' _ _ _ (fun _ => rfl) (Or.inr rfl) rfl rfl
  · have hq : ((Num.sz a0 : Int) != 1) = true := by rw [bne_iff_ne]; omega
    have HSZ : Hid (¬ Num.sz a0 = 1) := hsz
    clear hsz
    go_wp2
    all_goals go_ret2
    all_goals exact NumPost.bad nq (Or.inl (by show Num.sz (Num.V l 1 0) ≠ 1; rw [HV.out]; exact HSZ.out))

set_option maxHeartbeats 2000000 in
theorem number2 {w : World} {rb b off cap : Nat} {l : List Int} (most : Int)
    (hcap : l.length ≤ cap) (hc1 : w.cell? ⟨rb, 1, none⟩ = some (.slice (some ⟨b, off, none⟩) l.length cap)) (hf1 : w.frozen? ⟨rb, 1, none⟩ = false)
    (hl : Byt l) (hb : l.length ≤ 140737488355328) (hcell : ∀ i, i < l.length → w.cell? ⟨b, off + i, none⟩ = some (.int .u8 (l.getD i 0)))
    (hk : Num.told (l.getD 0 0) = 2) (hlen : 2 ≤ l.length) :
    Calls Try.prog 56 #[.pointer (some ⟨rb, 0, none⟩), .int .i64 most] w fun e w' => NumPost w rb b off cap l 2 most e w' := by
  have hz : ((l.length : Int) == 0) = false := by rw [beq_eq_false_iff_ne]; omega
  have hlt : decide ((l.length : Int) < 2) = false := by rw [decide_eq_false_iff_not]; omega
  obtain ⟨hy10, hy11⟩ := hl.get 1
  have hcy1 := hcell 1 (by omega)
  have hx0 := (hl.get 0).1
  have hx1 := (hl.get 0).2
  have hcx := hcell 0 (by omega)
  have HK : Hid (Num.told (l.getD 0 0) = 2) := hk
  rw [Nat.add_zero] at hcx
  have hpos : (0 : Int) < (l.length : Int) := by omega
  have hlen' : (2 : Int) ≤ (l.length : Int) := by omega
  have hcap' : (l.length : Int) ≤ (cap : Int) := by omega
  clear hcell hk hl
  generalize hx : l.getD 0 0 = x at hcx HK hx0 hx1
  generalize hx1' : l.getD 1 0 = y1 at *
  have HX : Hid (l.getD 0 0 = x ∧ l.getD 1 0 = y1) := ⟨hx, hx1'⟩
  clear hx hx1'
  go_enter Try.func56, Try.ntmps56
  go_wp2_with (go_at_call 65; refine (told_is _ 2 _ hx0 hx1 HK.out).mono ?_; rintro e w' ⟨rfl, rfl⟩)
  go_quiet (fail)
  go_wp2
  have ha0 : 0 ≤ x % 64 := by omega
  have hb0 : x % 64 < 64 := by omega
  have hE0 : Num.head 2 x = x % 64 := rfl
  generalize x % 64 = a0 at ha0 hb0 hE0 ⊢
  have HE0 : Hid (Num.head 2 x = a0) := hE0
  clear hE0
  refine wp_loop_rounds 2 ?_
  rw [rounds_succ]
  go_wp2_with fail
  rw [orI a0 y1 (by omega) (by omega) (by omega) (by omega)]
  have ha1 : 0 ≤ a0 * 256 + y1 := by omega
  have hb1 : a0 * 256 + y1 < 16384 := by omega
  generalize hA1 : a0 * 256 + y1 = a1 at ha1 hb1 ⊢
  have HA1 : Hid (a0 * 256 + y1 = a1) := hA1
  clear hA1
  rw [rounds_succ]
  go_wp2_with fail
  refine (sizeOf_any _ _ (by omega) (by omega)).mono ?_
  rintro e w2 ⟨rfl, rfl⟩
  have HV : Hid (Num.V l 2 1 = a1) := by
    obtain ⟨e0, e1⟩ := HX.out
    have f0 := HE0.out
    have f1 := HA1.out
    show _ = _
    simp only [Num.V, Nat.zero_add, e0, e1, f0]
    omega
  by_cases hsz : Num.sz a1 = 2
  · have hq : ((Num.sz a1 : Int) != 2) = false := by rw [bne_eq_false_iff_eq, hsz]; rfl
    have HSZ : Hid (Num.sz a1 = 2) := hsz
    clear hsz
    by_cases hm : most < a1
    · go_wp2
      all_goals go_ret2
      all_goals exact NumPost.bad nq (Or.inr (by show most < Num.V l 2 1; rw [HV.out]; exact hm))
    · have hm' : a1 ≤ most := by omega
      go_wp2
      all_goals go_ret2
      · exact NumPost.ok nq a1 HV.out HSZ.out hm' _ _ _ (fun h => by omega) (Or.inl rfl) rfl (by omega)
      · exact NumPost.ok nq a1 HV.out HSZ.out hm' _ _ _ (fun _ => rfl) (Or.inr rfl) rfl rfl
  · have hq : ((Num.sz a1 : Int) != 2) = true := by rw [bne_iff_ne]; omega
    have HSZ : Hid (¬ Num.sz a1 = 2) := hsz
    clear hsz
    go_wp2
    all_goals go_ret2
    all_goals exact NumPost.bad nq (Or.inl (by show Num.sz (Num.V l 2 1) ≠ 2; rw [HV.out]; exact HSZ.out))

set_option maxHeartbeats 2000000 in
theorem number3 {w : World} {rb b off cap : Nat} {l : List Int} (most : Int)
    (hcap : l.length ≤ cap) (hc1 : w.cell? ⟨rb, 1, none⟩ = some (.slice (some ⟨b, off, none⟩) l.length cap)) (hf1 : w.frozen? ⟨rb, 1, none⟩ = false)
    (hl : Byt l) (hb : l.length ≤ 140737488355328) (hcell : ∀ i, i < l.length → w.cell? ⟨b, off + i, none⟩ = some (.int .u8 (l.getD i 0)))
    (hk : Num.told (l.getD 0 0) = 3) (hlen : 3 ≤ l.length) :
    Calls Try.prog 56 #[.pointer (some ⟨rb, 0, none⟩), .int .i64 most] w fun e w' => NumPost w rb b off cap l 3 most e w' := by
  have hz : ((l.length : Int) == 0) = false := by rw [beq_eq_false_iff_ne]; omega
  have hlt : decide ((l.length : Int) < 3) = false := by rw [decide_eq_false_iff_not]; omega
  obtain ⟨hy10, hy11⟩ := hl.get 1
  have hcy1 := hcell 1 (by omega)
  obtain ⟨hy20, hy21⟩ := hl.get 2
  have hcy2 := hcell 2 (by omega)
  have hx0 := (hl.get 0).1
  have hx1 := (hl.get 0).2
  have hcx := hcell 0 (by omega)
  have HK : Hid (Num.told (l.getD 0 0) = 3) := hk
  rw [Nat.add_zero] at hcx
  have hpos : (0 : Int) < (l.length : Int) := by omega
  have hlen' : (3 : Int) ≤ (l.length : Int) := by omega
  have hcap' : (l.length : Int) ≤ (cap : Int) := by omega
  clear hcell hk hl
  generalize hx : l.getD 0 0 = x at hcx HK hx0 hx1
  generalize hx1' : l.getD 1 0 = y1 at *
  generalize hx2' : l.getD 2 0 = y2 at *
  have HX : Hid (l.getD 0 0 = x ∧ l.getD 1 0 = y1 ∧ l.getD 2 0 = y2) := ⟨hx, hx1', hx2'⟩
  clear hx hx1' hx2'
  go_enter Try.func56, Try.ntmps56
  go_wp2_with (go_at_call 65; refine (told_is _ 3 _ hx0 hx1 HK.out).mono ?_; rintro e w' ⟨rfl, rfl⟩)
  go_quiet (fail)
  go_wp2
  have ha0 : 0 ≤ x % 32 := by omega
  have hb0 : x % 32 < 32 := by omega
  have hE0 : Num.head 3 x = x % 32 := rfl
  generalize x % 32 = a0 at ha0 hb0 hE0 ⊢
  have HE0 : Hid (Num.head 3 x = a0) := hE0
  clear hE0
  refine wp_loop_rounds 3 ?_
  rw [rounds_succ]
  go_wp2_with fail
  rw [orI a0 y1 (by omega) (by omega) (by omega) (by omega)]
  have ha1 : 0 ≤ a0 * 256 + y1 := by omega
  have hb1 : a0 * 256 + y1 < 8192 := by omega
  generalize hA1 : a0 * 256 + y1 = a1 at ha1 hb1 ⊢
  have HA1 : Hid (a0 * 256 + y1 = a1) := hA1
  clear hA1
  rw [rounds_succ]
  go_wp2_with fail
  rw [orI a1 y2 (by omega) (by omega) (by omega) (by omega)]
  have ha2 : 0 ≤ a1 * 256 + y2 := by omega
  have hb2 : a1 * 256 + y2 < 2097152 := by omega
  generalize hA2 : a1 * 256 + y2 = a2 at ha2 hb2 ⊢
  have HA2 : Hid (a1 * 256 + y2 = a2) := hA2
  clear hA2
  rw [rounds_succ]
  go_wp2_with fail
  refine (sizeOf_any _ _ (by omega) (by omega)).mono ?_
  rintro e w2 ⟨rfl, rfl⟩
  have HV : Hid (Num.V l 3 2 = a2) := by
    obtain ⟨e0, e1, e2⟩ := HX.out
    have f0 := HE0.out
    have f1 := HA1.out
    have f2 := HA2.out
    show _ = _
    simp only [Num.V, Nat.reduceAdd, Nat.zero_add, e0, e1, e2, f0]
    omega
  by_cases hsz : Num.sz a2 = 3
  · have hq : ((Num.sz a2 : Int) != 3) = false := by rw [bne_eq_false_iff_eq, hsz]; rfl
    have HSZ : Hid (Num.sz a2 = 3) := hsz
    clear hsz
    by_cases hm : most < a2
    · go_wp2
      all_goals go_ret2
      all_goals exact NumPost.bad nq (Or.inr (by show most < Num.V l 3 2; rw [HV.out]; exact hm))
    · have hm' : a2 ≤ most := by omega
      go_wp2
      all_goals go_ret2
      · exact NumPost.ok nq a2 HV.out HSZ.out hm' _ _ _ (fun h => by omega) (Or.inl rfl) rfl (by omega)
      · exact NumPost.ok nq a2 HV.out HSZ.out hm' _ _ _ (fun _ => rfl) (Or.inr rfl) rfl rfl
  · have hq : ((Num.sz a2 : Int) != 3) = true := by rw [bne_iff_ne]; omega
    have HSZ : Hid (¬ Num.sz a2 = 3) := hsz
    clear hsz
    go_wp2
    all_goals go_ret2
    all_goals exact NumPost.bad nq (Or.inl (by show Num.sz (Num.V l 3 2) ≠ 3; rw [HV.out]; exact HSZ.out))

set_option maxHeartbeats 2000000 in
theorem number4 {w : World} {rb b off cap : Nat} {l : List Int} (most : Int)
    (hcap : l.length ≤ cap) (hc1 : w.cell? ⟨rb, 1, none⟩ = some (.slice (some ⟨b, off, none⟩) l.length cap)) (hf1 : w.frozen? ⟨rb, 1, none⟩ = false)
    (hl : Byt l) (hb : l.length ≤ 140737488355328) (hcell : ∀ i, i < l.length → w.cell? ⟨b, off + i, none⟩ = some (.int .u8 (l.getD i 0)))
    (hk : Num.told (l.getD 0 0) = 4) (hlen : 4 ≤ l.length) :
    Calls Try.prog 56 #[.pointer (some ⟨rb, 0, none⟩), .int .i64 most] w fun e w' => NumPost w rb b off cap l 4 most e w' := by
  have hz : ((l.length : Int) == 0) = false := by rw [beq_eq_false_iff_ne]; omega
  have hlt : decide ((l.length : Int) < 4) = false := by rw [decide_eq_false_iff_not]; omega
  obtain ⟨hy10, hy11⟩ := hl.get 1
  have hcy1 := hcell 1 (by omega)
  obtain ⟨hy20, hy21⟩ := hl.get 2
  have hcy2 := hcell 2 (by omega)
  obtain ⟨hy30, hy31⟩ := hl.get 3
  have hcy3 := hcell 3 (by omega)
  have hx0 := (hl.get 0).1
  have hx1 := (hl.get 0).2
  have hcx := hcell 0 (by omega)
  have HK : Hid (Num.told (l.getD 0 0) = 4) := hk
  rw [Nat.add_zero] at hcx
  have hpos : (0 : Int) < (l.length : Int) := by omega
  have hlen' : (4 : Int) ≤ (l.length : Int) := by omega
  have hcap' : (l.length : Int) ≤ (cap : Int) := by omega
  clear hcell hk hl
  generalize hx : l.getD 0 0 = x at hcx HK hx0 hx1
  generalize hx1' : l.getD 1 0 = y1 at *
  generalize hx2' : l.getD 2 0 = y2 at *
  generalize hx3' : l.getD 3 0 = y3 at *
  have HX : Hid (l.getD 0 0 = x ∧ l.getD 1 0 = y1 ∧ l.getD 2 0 = y2 ∧ l.getD 3 0 = y3) := ⟨hx, hx1', hx2', hx3'⟩
  clear hx hx1' hx2' hx3'
  go_enter Try.func56, Try.ntmps56
  go_wp2_with (go_at_call 65; refine (told_is _ 4 _ hx0 hx1 HK.out).mono ?_; rintro e w' ⟨rfl, rfl⟩)
  go_quiet (fail)
  go_wp2
  have ha0 : 0 ≤ x % 16 := by omega
  have hb0 : x % 16 < 16 := by omega
  have hE0 : Num.head 4 x = x % 16 := rfl
  generalize x % 16 = a0 at ha0 hb0 hE0 ⊢
  have HE0 : Hid (Num.head 4 x = a0) := hE0
  clear hE0
  refine wp_loop_rounds 4 ?_
  rw [rounds_succ]
  go_wp2_with fail
  rw [orI a0 y1 (by omega) (by omega) (by omega) (by omega)]
  have ha1 : 0 ≤ a0 * 256 + y1 := by omega
  have hb1 : a0 * 256 + y1 < 4096 := by omega
  generalize hA1 : a0 * 256 + y1 = a1 at ha1 hb1 ⊢
  have HA1 : Hid (a0 * 256 + y1 = a1) := hA1
  clear hA1
  rw [rounds_succ]
  go_wp2_with fail
  rw [orI a1 y2 (by omega) (by omega) (by omega) (by omega)]
  have ha2 : 0 ≤ a1 * 256 + y2 := by omega
  have hb2 : a1 * 256 + y2 < 1048576 := by omega
  generalize hA2 : a1 * 256 + y2 = a2 at ha2 hb2 ⊢
  have HA2 : Hid (a1 * 256 + y2 = a2) := hA2
  clear hA2
  rw [rounds_succ]
  go_wp2_with fail
  rw [orI a2 y3 (by omega) (by omega) (by omega) (by omega)]
  have ha3 : 0 ≤ a2 * 256 + y3 := by omega
  have hb3 : a2 * 256 + y3 < 268435456 := by omega
  generalize hA3 : a2 * 256 + y3 = a3 at ha3 hb3 ⊢
  have HA3 : Hid (a2 * 256 + y3 = a3) := hA3
  clear hA3
  rw [rounds_succ]
  go_wp2_with fail
  refine (sizeOf_any _ _ (by omega) (by omega)).mono ?_
  rintro e w2 ⟨rfl, rfl⟩
  have HV : Hid (Num.V l 4 3 = a3) := by
    obtain ⟨e0, e1, e2, e3⟩ := HX.out
    have f0 := HE0.out
    have f1 := HA1.out
    have f2 := HA2.out
    have f3 := HA3.out
    show _ = _
    simp only [Num.V, Nat.reduceAdd, Nat.zero_add, e0, e1, e2, e3, f0]
    omega
  by_cases hsz : Num.sz a3 = 4
  · have hq : ((Num.sz a3 : Int) != 4) = false := by rw [bne_eq_false_iff_eq, hsz]; rfl
    have HSZ : Hid (Num.sz a3 = 4) := hsz
    clear hsz
    by_cases hm : most < a3
    · go_wp2
      all_goals go_ret2
      all_goals exact NumPost.bad nq (Or.inr (by show most < Num.V l 4 3; rw [HV.out]; exact hm))
    · have hm' : a3 ≤ most := by omega
      go_wp2
      all_goals go_ret2
      · exact NumPost.ok nq a3 HV.out HSZ.out hm' _ _ _ (fun h => by omega) (Or.inl rfl) rfl (by omega)
      · exact NumPost.ok nq a3 HV.out HSZ.out hm' _ _ _ (fun _ => rfl) (Or.inr rfl) rfl rfl
  · have hq : ((Num.sz a3 : Int) != 4) = true := by rw [bne_iff_ne]; omega
    have HSZ : Hid (¬ Num.sz a3 = 4) := hsz
    clear hsz
    go_wp2
    all_goals go_ret2
    all_goals exact NumPost.bad nq (Or.inl (by show Num.sz (Num.V l 4 3) ≠ 4; rw [HV.out]; exact HSZ.out))

set_option maxHeartbeats 2000000 in
theorem number5 {w : World} {rb b off cap : Nat} {l : List Int} (most : Int)
    (hcap : l.length ≤ cap) (hc1 : w.cell? ⟨rb, 1, none⟩ = some (.slice (some ⟨b, off, none⟩) l.length cap)) (hf1 : w.frozen? ⟨rb, 1, none⟩ = false)
    (hl : Byt l) (hb : l.length ≤ 140737488355328) (hcell : ∀ i, i < l.length → w.cell? ⟨b, off + i, none⟩ = some (.int .u8 (l.getD i 0)))
    (hk : Num.told (l.getD 0 0) = 5) (hlen : 5 ≤ l.length) :
    Calls Try.prog 56 #[.pointer (some ⟨rb, 0, none⟩), .int .i64 most] w fun e w' => NumPost w rb b off cap l 5 most e w' := by
  have hz : ((l.length : Int) == 0) = false := by rw [beq_eq_false_iff_ne]; omega
  have hlt : decide ((l.length : Int) < 5) = false := by rw [decide_eq_false_iff_not]; omega
  obtain ⟨hy10, hy11⟩ := hl.get 1
  have hcy1 := hcell 1 (by omega)
  obtain ⟨hy20, hy21⟩ := hl.get 2
  have hcy2 := hcell 2 (by omega)
  obtain ⟨hy30, hy31⟩ := hl.get 3
  have hcy3 := hcell 3 (by omega)
  obtain ⟨hy40, hy41⟩ := hl.get 4
  have hcy4 := hcell 4 (by omega)
  have hx0 := (hl.get 0).1
  have hx1 := (hl.get 0).2
  have hcx := hcell 0 (by omega)
  have HK : Hid (Num.told (l.getD 0 0) = 5) := hk
  rw [Nat.add_zero] at hcx
  have hpos : (0 : Int) < (l.length : Int) := by omega
  have hlen' : (5 : Int) ≤ (l.length : Int) := by omega
  have hcap' : (l.length : Int) ≤ (cap : Int) := by omega
  clear hcell hk hl
  generalize hx : l.getD 0 0 = x at hcx HK hx0 hx1
  generalize hx1' : l.getD 1 0 = y1 at *
  generalize hx2' : l.getD 2 0 = y2 at *
  generalize hx3' : l.getD 3 0 = y3 at *
  generalize hx4' : l.getD 4 0 = y4 at *
  have HX : Hid (l.getD 0 0 = x ∧ l.getD 1 0 = y1 ∧ l.getD 2 0 = y2 ∧ l.getD 3 0 = y3 ∧ l.getD 4 0 = y4) := ⟨hx, hx1', hx2', hx3', hx4'⟩
  clear hx hx1' hx2' hx3' hx4'
  go_enter Try.func56, Try.ntmps56
  go_wp2_with (go_at_call 65; refine (told_is _ 5 _ hx0 hx1 HK.out).mono ?_; rintro e w' ⟨rfl, rfl⟩)
  go_quiet (fail)
  go_wp2
  have ha0 : 0 ≤ x % 8 := by omega
  have hb0 : x % 8 < 8 := by omega
  have hE0 : Num.head 5 x = x % 8 := rfl
  generalize x % 8 = a0 at ha0 hb0 hE0 ⊢
  have HE0 : Hid (Num.head 5 x = a0) := hE0
  clear hE0
  refine wp_loop_rounds 5 ?_
  rw [rounds_succ]
  go_wp2_with fail
  rw [orI a0 y1 (by omega) (by omega) (by omega) (by omega)]
  have ha1 : 0 ≤ a0 * 256 + y1 := by omega
  have hb1 : a0 * 256 + y1 < 2048 := by omega
  generalize hA1 : a0 * 256 + y1 = a1 at ha1 hb1 ⊢
  have HA1 : Hid (a0 * 256 + y1 = a1) := hA1
  clear hA1
  rw [rounds_succ]
  go_wp2_with fail
  rw [orI a1 y2 (by omega) (by omega) (by omega) (by omega)]
  have ha2 : 0 ≤ a1 * 256 + y2 := by omega
  have hb2 : a1 * 256 + y2 < 524288 := by omega
  generalize hA2 : a1 * 256 + y2 = a2 at ha2 hb2 ⊢
  have HA2 : Hid (a1 * 256 + y2 = a2) := hA2
  clear hA2
  rw [rounds_succ]
  go_wp2_with fail
  rw [orI a2 y3 (by omega) (by omega) (by omega) (by omega)]
  have ha3 : 0 ≤ a2 * 256 + y3 := by omega
  have hb3 : a2 * 256 + y3 < 134217728 := by omega
  generalize hA3 : a2 * 256 + y3 = a3 at ha3 hb3 ⊢
  have HA3 : Hid (a2 * 256 + y3 = a3) := hA3
  clear hA3
  rw [rounds_succ]
  go_wp2_with fail
  rw [orI a3 y4 (by omega) (by omega) (by omega) (by omega)]
  have ha4 : 0 ≤ a3 * 256 + y4 := by omega
  have hb4 : a3 * 256 + y4 < 34359738368 := by omega
  generalize hA4 : a3 * 256 + y4 = a4 at ha4 hb4 ⊢
  have HA4 : Hid (a3 * 256 + y4 = a4) := hA4
  clear hA4
  rw [rounds_succ]
  go_wp2_with fail
  refine (sizeOf_any _ _ (by omega) (by omega)).mono ?_
  rintro e w2 ⟨rfl, rfl⟩
  have HV : Hid (Num.V l 5 4 = a4) := by
    obtain ⟨e0, e1, e2, e3, e4⟩ := HX.out
    have f0 := HE0.out
    have f1 := HA1.out
    have f2 := HA2.out
    have f3 := HA3.out
    have f4 := HA4.out
    show _ = _
    simp only [Num.V, Nat.reduceAdd, Nat.zero_add, e0, e1, e2, e3, e4, f0]
    omega
  by_cases hsz : Num.sz a4 = 5
  · have hq : ((Num.sz a4 : Int) != 5) = false := by rw [bne_eq_false_iff_eq, hsz]; rfl
    have HSZ : Hid (Num.sz a4 = 5) := hsz
    clear hsz
    by_cases hm : most < a4
    · go_wp2
      all_goals go_ret2
      all_goals exact NumPost.bad nq (Or.inr (by show most < Num.V l 5 4; rw [HV.out]; exact hm))
    · have hm' : a4 ≤ most := by omega
      go_wp2
      all_goals go_ret2
      · exact NumPost.ok nq a4 HV.out HSZ.out hm' _ _ _ (fun h => by omega) (Or.inl rfl) rfl (by omega)
      · exact NumPost.ok nq a4 HV.out HSZ.out hm' _ _ _ (fun _ => rfl) (Or.inr rfl) rfl rfl
  · have hq : ((Num.sz a4 : Int) != 5) = true := by rw [bne_iff_ne]; omega
    have HSZ : Hid (¬ Num.sz a4 = 5) := hsz
    clear hsz
    go_wp2
    all_goals go_ret2
    all_goals exact NumPost.bad nq (Or.inl (by show Num.sz (Num.V l 5 4) ≠ 5; rw [HV.out]; exact HSZ.out))

set_option maxHeartbeats 2000000 in
theorem number6 {w : World} {rb b off cap : Nat} {l : List Int} (most : Int)
    (hcap : l.length ≤ cap) (hc1 : w.cell? ⟨rb, 1, none⟩ = some (.slice (some ⟨b, off, none⟩) l.length cap)) (hf1 : w.frozen? ⟨rb, 1, none⟩ = false)
    (hl : Byt l) (hb : l.length ≤ 140737488355328) (hcell : ∀ i, i < l.length → w.cell? ⟨b, off + i, none⟩ = some (.int .u8 (l.getD i 0)))
    (hk : Num.told (l.getD 0 0) = 6) (hlen : 6 ≤ l.length) :
    Calls Try.prog 56 #[.pointer (some ⟨rb, 0, none⟩), .int .i64 most] w fun e w' => NumPost w rb b off cap l 6 most e w' := by
  have hz : ((l.length : Int) == 0) = false := by rw [beq_eq_false_iff_ne]; omega
  have hlt : decide ((l.length : Int) < 6) = false := by rw [decide_eq_false_iff_not]; omega
  obtain ⟨hy10, hy11⟩ := hl.get 1
  have hcy1 := hcell 1 (by omega)
  obtain ⟨hy20, hy21⟩ := hl.get 2
  have hcy2 := hcell 2 (by omega)
  obtain ⟨hy30, hy31⟩ := hl.get 3
  have hcy3 := hcell 3 (by omega)
  obtain ⟨hy40, hy41⟩ := hl.get 4
  have hcy4 := hcell 4 (by omega)
  obtain ⟨hy50, hy51⟩ := hl.get 5
  have hcy5 := hcell 5 (by omega)
  have hx0 := (hl.get 0).1
  have hx1 := (hl.get 0).2
  have hcx := hcell 0 (by omega)
  have HK : Hid (Num.told (l.getD 0 0) = 6) := hk
  rw [Nat.add_zero] at hcx
  have hpos : (0 : Int) < (l.length : Int) := by omega
  have hlen' : (6 : Int) ≤ (l.length : Int) := by omega
  have hcap' : (l.length : Int) ≤ (cap : Int) := by omega
  clear hcell hk hl
  generalize hx : l.getD 0 0 = x at hcx HK hx0 hx1
  generalize hx1' : l.getD 1 0 = y1 at *
  generalize hx2' : l.getD 2 0 = y2 at *
  generalize hx3' : l.getD 3 0 = y3 at *
  generalize hx4' : l.getD 4 0 = y4 at *
  generalize hx5' : l.getD 5 0 = y5 at *
  have HX : Hid (l.getD 0 0 = x ∧ l.getD 1 0 = y1 ∧ l.getD 2 0 = y2 ∧ l.getD 3 0 = y3 ∧ l.getD 4 0 = y4 ∧ l.getD 5 0 = y5) := ⟨hx, hx1', hx2', hx3', hx4', hx5'⟩
  clear hx hx1' hx2' hx3' hx4' hx5'
  go_enter Try.func56, Try.ntmps56
  go_wp2_with (go_at_call 65; refine (told_is _ 6 _ hx0 hx1 HK.out).mono ?_; rintro e w' ⟨rfl, rfl⟩)
  go_quiet (fail)
  go_wp2
  rw [and6 x hx0 hx1]
  have ha0 : 0 ≤ x % 4 := by omega
  have hb0 : x % 4 < 4 := by omega
  have hE0 : Num.head 6 x = x % 4 := rfl
  generalize x % 4 = a0 at ha0 hb0 hE0 ⊢
  have HE0 : Hid (Num.head 6 x = a0) := hE0
  clear hE0
  refine wp_loop_rounds 6 ?_
  rw [rounds_succ]
  go_wp2_with fail
  rw [orI a0 y1 (by omega) (by omega) (by omega) (by omega)]
  have ha1 : 0 ≤ a0 * 256 + y1 := by omega
  have hb1 : a0 * 256 + y1 < 1024 := by omega
  generalize hA1 : a0 * 256 + y1 = a1 at ha1 hb1 ⊢
  have HA1 : Hid (a0 * 256 + y1 = a1) := hA1
  clear hA1
  rw [rounds_succ]
  go_wp2_with fail
  rw [orI a1 y2 (by omega) (by omega) (by omega) (by omega)]
  have ha2 : 0 ≤ a1 * 256 + y2 := by omega
  have hb2 : a1 * 256 + y2 < 262144 := by omega
  generalize hA2 : a1 * 256 + y2 = a2 at ha2 hb2 ⊢
  have HA2 : Hid (a1 * 256 + y2 = a2) := hA2
  clear hA2
  rw [rounds_succ]
  go_wp2_with fail
  rw [orI a2 y3 (by omega) (by omega) (by omega) (by omega)]
  have ha3 : 0 ≤ a2 * 256 + y3 := by omega
  have hb3 : a2 * 256 + y3 < 67108864 := by omega
  generalize hA3 : a2 * 256 + y3 = a3 at ha3 hb3 ⊢
  have HA3 : Hid (a2 * 256 + y3 = a3) := hA3
  clear hA3
  rw [rounds_succ]
  go_wp2_with fail
  rw [orI a3 y4 (by omega) (by omega) (by omega) (by omega)]
  have ha4 : 0 ≤ a3 * 256 + y4 := by omega
  have hb4 : a3 * 256 + y4 < 17179869184 := by omega
  generalize hA4 : a3 * 256 + y4 = a4 at ha4 hb4 ⊢
  have HA4 : Hid (a3 * 256 + y4 = a4) := hA4
  clear hA4
  rw [rounds_succ]
  go_wp2_with fail
  rw [orI a4 y5 (by omega) (by omega) (by omega) (by omega)]
  have ha5 : 0 ≤ a4 * 256 + y5 := by omega
  have hb5 : a4 * 256 + y5 < 4398046511104 := by omega
  generalize hA5 : a4 * 256 + y5 = a5 at ha5 hb5 ⊢
  have HA5 : Hid (a4 * 256 + y5 = a5) := hA5
  clear hA5
  rw [rounds_succ]
  go_wp2_with fail
  refine (sizeOf_any _ _ (by omega) (by omega)).mono ?_
  rintro e w2 ⟨rfl, rfl⟩
  have HV : Hid (Num.V l 6 5 = a5) := by
    obtain ⟨e0, e1, e2, e3, e4, e5⟩ := HX.out
    have f0 := HE0.out
    have f1 := HA1.out
    have f2 := HA2.out
    have f3 := HA3.out
    have f4 := HA4.out
    have f5 := HA5.out
    show _ = _
    simp only [Num.V, Nat.reduceAdd, Nat.zero_add, e0, e1, e2, e3, e4, e5, f0]
    omega
  by_cases hsz : Num.sz a5 = 6
  · have hq : ((Num.sz a5 : Int) != 6) = false := by rw [bne_eq_false_iff_eq, hsz]; rfl
    have HSZ : Hid (Num.sz a5 = 6) := hsz
    clear hsz
    by_cases hm : most < a5
    · go_wp2
      all_goals go_ret2
      all_goals exact NumPost.bad nq (Or.inr (by show most < Num.V l 6 5; rw [HV.out]; exact hm))
    · have hm' : a5 ≤ most := by omega
      go_wp2
      all_goals go_ret2
      · exact NumPost.ok nq a5 HV.out HSZ.out hm' _ _ _ (fun h => by omega) (Or.inl rfl) rfl (by omega)
      · exact NumPost.ok nq a5 HV.out HSZ.out hm' _ _ _ (fun _ => rfl) (Or.inr rfl) rfl rfl
  · have hq : ((Num.sz a5 : Int) != 6) = true := by rw [bne_iff_ne]; omega
    have HSZ : Hid (¬ Num.sz a5 = 6) := hsz
    clear hsz
    go_wp2
    all_goals go_ret2
    all_goals exact NumPost.bad nq (Or.inl (by show Num.sz (Num.V l 6 5) ≠ 6; rw [HV.out]; exact HSZ.out))

set_option maxHeartbeats 2000000 in
theorem number7 {w : World} {rb b off cap : Nat} {l : List Int} (most : Int)
    (hcap : l.length ≤ cap) (hc1 : w.cell? ⟨rb, 1, none⟩ = some (.slice (some ⟨b, off, none⟩) l.length cap)) (hf1 : w.frozen? ⟨rb, 1, none⟩ = false)
    (hl : Byt l) (hb : l.length ≤ 140737488355328) (hcell : ∀ i, i < l.length → w.cell? ⟨b, off + i, none⟩ = some (.int .u8 (l.getD i 0)))
    (hk : Num.told (l.getD 0 0) = 7) (hlen : 7 ≤ l.length) :
    Calls Try.prog 56 #[.pointer (some ⟨rb, 0, none⟩), .int .i64 most] w fun e w' => NumPost w rb b off cap l 7 most e w' := by
  have hz : ((l.length : Int) == 0) = false := by rw [beq_eq_false_iff_ne]; omega
  have hlt : decide ((l.length : Int) < 7) = false := by rw [decide_eq_false_iff_not]; omega
  obtain ⟨hy10, hy11⟩ := hl.get 1
  have hcy1 := hcell 1 (by omega)
  obtain ⟨hy20, hy21⟩ := hl.get 2
  have hcy2 := hcell 2 (by omega)
  obtain ⟨hy30, hy31⟩ := hl.get 3
  have hcy3 := hcell 3 (by omega)
  obtain ⟨hy40, hy41⟩ := hl.get 4
  have hcy4 := hcell 4 (by omega)
  obtain ⟨hy50, hy51⟩ := hl.get 5
  have hcy5 := hcell 5 (by omega)
  obtain ⟨hy60, hy61⟩ := hl.get 6
  have hcy6 := hcell 6 (by omega)
  have hx0 := (hl.get 0).1
  have hx1 := (hl.get 0).2
  have hcx := hcell 0 (by omega)
  have HK : Hid (Num.told (l.getD 0 0) = 7) := hk
  rw [Nat.add_zero] at hcx
  have hpos : (0 : Int) < (l.length : Int) := by omega
  have hlen' : (7 : Int) ≤ (l.length : Int) := by omega
  have hcap' : (l.length : Int) ≤ (cap : Int) := by omega
  clear hcell hk hl
  generalize hx : l.getD 0 0 = x at hcx HK hx0 hx1
  generalize hx1' : l.getD 1 0 = y1 at *
  generalize hx2' : l.getD 2 0 = y2 at *
  generalize hx3' : l.getD 3 0 = y3 at *
  generalize hx4' : l.getD 4 0 = y4 at *
  generalize hx5' : l.getD 5 0 = y5 at *
  generalize hx6' : l.getD 6 0 = y6 at *
  have HX : Hid (l.getD 0 0 = x ∧ l.getD 1 0 = y1 ∧ l.getD 2 0 = y2 ∧ l.getD 3 0 = y3 ∧ l.getD 4 0 = y4 ∧ l.getD 5 0 = y5 ∧ l.getD 6 0 = y6) := ⟨hx, hx1', hx2', hx3', hx4', hx5', hx6'⟩
  clear hx hx1' hx2' hx3' hx4' hx5' hx6'
  go_enter Try.func56, Try.ntmps56
  go_wp2_with (go_at_call 65; refine (told_is _ 7 _ hx0 hx1 HK.out).mono ?_; rintro e w' ⟨rfl, rfl⟩)
  go_quiet (fail)
  go_wp2
  rw [and7 x hx0 hx1]
  have ha0 : 0 ≤ x % 2 := by omega
  have hb0 : x % 2 < 2 := by omega
  have hE0 : Num.head 7 x = x % 2 := rfl
  generalize x % 2 = a0 at ha0 hb0 hE0 ⊢
  have HE0 : Hid (Num.head 7 x = a0) := hE0
  clear hE0
  refine wp_loop_rounds 7 ?_
  rw [rounds_succ]
  go_wp2_with fail
  rw [orI a0 y1 (by omega) (by omega) (by omega) (by omega)]
  have ha1 : 0 ≤ a0 * 256 + y1 := by omega
  have hb1 : a0 * 256 + y1 < 512 := by omega
  generalize hA1 : a0 * 256 + y1 = a1 at ha1 hb1 ⊢
  have HA1 : Hid (a0 * 256 + y1 = a1) := hA1
  clear hA1
  rw [rounds_succ]
  go_wp2_with fail
  rw [orI a1 y2 (by omega) (by omega) (by omega) (by omega)]
  have ha2 : 0 ≤ a1 * 256 + y2 := by omega
  have hb2 : a1 * 256 + y2 < 131072 := by omega
  generalize hA2 : a1 * 256 + y2 = a2 at ha2 hb2 ⊢
  have HA2 : Hid (a1 * 256 + y2 = a2) := hA2
  clear hA2
  rw [rounds_succ]
  go_wp2_with fail
  rw [orI a2 y3 (by omega) (by omega) (by omega) (by omega)]
  have ha3 : 0 ≤ a2 * 256 + y3 := by omega
  have hb3 : a2 * 256 + y3 < 33554432 := by omega
  generalize hA3 : a2 * 256 + y3 = a3 at ha3 hb3 ⊢
  have HA3 : Hid (a2 * 256 + y3 = a3) := hA3
  clear hA3
  rw [rounds_succ]
  go_wp2_with fail
  rw [orI a3 y4 (by omega) (by omega) (by omega) (by omega)]
  have ha4 : 0 ≤ a3 * 256 + y4 := by omega
  have hb4 : a3 * 256 + y4 < 8589934592 := by omega
  generalize hA4 : a3 * 256 + y4 = a4 at ha4 hb4 ⊢
  have HA4 : Hid (a3 * 256 + y4 = a4) := hA4
  clear hA4
  rw [rounds_succ]
  go_wp2_with fail
  rw [orI a4 y5 (by omega) (by omega) (by omega) (by omega)]
  have ha5 : 0 ≤ a4 * 256 + y5 := by omega
  have hb5 : a4 * 256 + y5 < 2199023255552 := by omega
  generalize hA5 : a4 * 256 + y5 = a5 at ha5 hb5 ⊢
  have HA5 : Hid (a4 * 256 + y5 = a5) := hA5
  clear hA5
  rw [rounds_succ]
  go_wp2_with fail
  rw [orI a5 y6 (by omega) (by omega) (by omega) (by omega)]
  have ha6 : 0 ≤ a5 * 256 + y6 := by omega
  have hb6 : a5 * 256 + y6 < 562949953421312 := by omega
  generalize hA6 : a5 * 256 + y6 = a6 at ha6 hb6 ⊢
  have HA6 : Hid (a5 * 256 + y6 = a6) := hA6
  clear hA6
  rw [rounds_succ]
  go_wp2_with fail
  refine (sizeOf_any _ _ (by omega) (by omega)).mono ?_
  rintro e w2 ⟨rfl, rfl⟩
  have HV : Hid (Num.V l 7 6 = a6) := by
    obtain ⟨e0, e1, e2, e3, e4, e5, e6⟩ := HX.out
    have f0 := HE0.out
    have f1 := HA1.out
    have f2 := HA2.out
    have f3 := HA3.out
    have f4 := HA4.out
    have f5 := HA5.out
    have f6 := HA6.out
    show _ = _
    simp only [Num.V, Nat.reduceAdd, Nat.zero_add, e0, e1, e2, e3, e4, e5, e6, f0]
    omega
  by_cases hsz : Num.sz a6 = 7
  · have hq : ((Num.sz a6 : Int) != 7) = false := by rw [bne_eq_false_iff_eq, hsz]; rfl
    have HSZ : Hid (Num.sz a6 = 7) := hsz
    clear hsz
    by_cases hm : most < a6
    · go_wp2
      all_goals go_ret2
      all_goals exact NumPost.bad nq (Or.inr (by show most < Num.V l 7 6; rw [HV.out]; exact hm))
    · have hm' : a6 ≤ most := by omega
      go_wp2
      all_goals go_ret2
      · exact NumPost.ok nq a6 HV.out HSZ.out hm' _ _ _ (fun h => by omega) (Or.inl rfl) rfl (by omega)
      · exact NumPost.ok nq a6 HV.out HSZ.out hm' _ _ _ (fun _ => rfl) (Or.inr rfl) rfl rfl
  · have hq : ((Num.sz a6 : Int) != 7) = true := by rw [bne_iff_ne]; omega
    have HSZ : Hid (¬ Num.sz a6 = 7) := hsz
    clear hsz
    go_wp2
    all_goals go_ret2
    all_goals exact NumPost.bad nq (Or.inl (by show Num.sz (Num.V l 7 6) ≠ 7; rw [HV.out]; exact HSZ.out))

set_option maxHeartbeats 2000000 in
theorem number8 {w : World} {rb b off cap : Nat} {l : List Int} (most : Int)
    (hcap : l.length ≤ cap) (hc1 : w.cell? ⟨rb, 1, none⟩ = some (.slice (some ⟨b, off, none⟩) l.length cap)) (hf1 : w.frozen? ⟨rb, 1, none⟩ = false)
    (hl : Byt l) (hb : l.length ≤ 140737488355328) (hcell : ∀ i, i < l.length → w.cell? ⟨b, off + i, none⟩ = some (.int .u8 (l.getD i 0)))
    (hk : Num.told (l.getD 0 0) = 8) (hlen : 8 ≤ l.length) :
    Calls Try.prog 56 #[.pointer (some ⟨rb, 0, none⟩), .int .i64 most] w fun e w' => NumPost w rb b off cap l 8 most e w' := by
  have hz : ((l.length : Int) == 0) = false := by rw [beq_eq_false_iff_ne]; omega
  have hlt : decide ((l.length : Int) < 8) = false := by rw [decide_eq_false_iff_not]; omega
  obtain ⟨hy10, hy11⟩ := hl.get 1
  have hcy1 := hcell 1 (by omega)
  obtain ⟨hy20, hy21⟩ := hl.get 2
  have hcy2 := hcell 2 (by omega)
  obtain ⟨hy30, hy31⟩ := hl.get 3
  have hcy3 := hcell 3 (by omega)
  obtain ⟨hy40, hy41⟩ := hl.get 4
  have hcy4 := hcell 4 (by omega)
  obtain ⟨hy50, hy51⟩ := hl.get 5
  have hcy5 := hcell 5 (by omega)
  obtain ⟨hy60, hy61⟩ := hl.get 6
  have hcy6 := hcell 6 (by omega)
  obtain ⟨hy70, hy71⟩ := hl.get 7
  have hcy7 := hcell 7 (by omega)
  have hx0 := (hl.get 0).1
  have hx1 := (hl.get 0).2
  have hcx := hcell 0 (by omega)
  have HK : Hid (Num.told (l.getD 0 0) = 8) := hk
  rw [Nat.add_zero] at hcx
  have hpos : (0 : Int) < (l.length : Int) := by omega
  have hlen' : (8 : Int) ≤ (l.length : Int) := by omega
  have hcap' : (l.length : Int) ≤ (cap : Int) := by omega
  clear hcell hk hl
  generalize hx : l.getD 0 0 = x at hcx HK hx0 hx1
  generalize hx1' : l.getD 1 0 = y1 at *
  generalize hx2' : l.getD 2 0 = y2 at *
  generalize hx3' : l.getD 3 0 = y3 at *
  generalize hx4' : l.getD 4 0 = y4 at *
  generalize hx5' : l.getD 5 0 = y5 at *
  generalize hx6' : l.getD 6 0 = y6 at *
  generalize hx7' : l.getD 7 0 = y7 at *
  have HX : Hid (l.getD 0 0 = x ∧ l.getD 1 0 = y1 ∧ l.getD 2 0 = y2 ∧ l.getD 3 0 = y3 ∧ l.getD 4 0 = y4 ∧ l.getD 5 0 = y5 ∧ l.getD 6 0 = y6 ∧ l.getD 7 0 = y7) := ⟨hx, hx1', hx2', hx3', hx4', hx5', hx6', hx7'⟩
  clear hx hx1' hx2' hx3' hx4' hx5' hx6' hx7'
  go_enter Try.func56, Try.ntmps56
  go_wp2_with (go_at_call 65; refine (told_is _ 8 _ hx0 hx1 HK.out).mono ?_; rintro e w' ⟨rfl, rfl⟩)
  go_quiet (fail)
  go_wp2
  rw [and8 x hx0 hx1]
  refine wp_loop_rounds 8 ?_
  rw [rounds_succ]
  go_wp2_with fail
  rw [orZ y1 (by omega) (by omega)]
  obtain ⟨a1, hA1⟩ : ∃ a1, a1 = y1 := ⟨_, rfl⟩
  have HA1 : Hid (a1 = y1) := hA1
  rw [← hA1]
  have ha1 : 0 ≤ a1 := by omega
  have hb1 : a1 < 256 := by omega
  clear hA1
  rw [rounds_succ]
  go_wp2_with fail
  rw [orI a1 y2 (by omega) (by omega) (by omega) (by omega)]
  have ha2 : 0 ≤ a1 * 256 + y2 := by omega
  have hb2 : a1 * 256 + y2 < 65536 := by omega
  generalize hA2 : a1 * 256 + y2 = a2 at ha2 hb2 ⊢
  have HA2 : Hid (a1 * 256 + y2 = a2) := hA2
  clear hA2
  rw [rounds_succ]
  go_wp2_with fail
  rw [orI a2 y3 (by omega) (by omega) (by omega) (by omega)]
  have ha3 : 0 ≤ a2 * 256 + y3 := by omega
  have hb3 : a2 * 256 + y3 < 16777216 := by omega
  generalize hA3 : a2 * 256 + y3 = a3 at ha3 hb3 ⊢
  have HA3 : Hid (a2 * 256 + y3 = a3) := hA3
  clear hA3
  rw [rounds_succ]
  go_wp2_with fail
  rw [orI a3 y4 (by omega) (by omega) (by omega) (by omega)]
  have ha4 : 0 ≤ a3 * 256 + y4 := by omega
  have hb4 : a3 * 256 + y4 < 4294967296 := by omega
  generalize hA4 : a3 * 256 + y4 = a4 at ha4 hb4 ⊢
  have HA4 : Hid (a3 * 256 + y4 = a4) := hA4
  clear hA4
  rw [rounds_succ]
  go_wp2_with fail
  rw [orI a4 y5 (by omega) (by omega) (by omega) (by omega)]
  have ha5 : 0 ≤ a4 * 256 + y5 := by omega
  have hb5 : a4 * 256 + y5 < 1099511627776 := by omega
  generalize hA5 : a4 * 256 + y5 = a5 at ha5 hb5 ⊢
  have HA5 : Hid (a4 * 256 + y5 = a5) := hA5
  clear hA5
  rw [rounds_succ]
  go_wp2_with fail
  rw [orI a5 y6 (by omega) (by omega) (by omega) (by omega)]
  have ha6 : 0 ≤ a5 * 256 + y6 := by omega
  have hb6 : a5 * 256 + y6 < 281474976710656 := by omega
  generalize hA6 : a5 * 256 + y6 = a6 at ha6 hb6 ⊢
  have HA6 : Hid (a5 * 256 + y6 = a6) := hA6
  clear hA6
  rw [rounds_succ]
  go_wp2_with fail
  rw [orI a6 y7 (by omega) (by omega) (by omega) (by omega)]
  have ha7 : 0 ≤ a6 * 256 + y7 := by omega
  have hb7 : a6 * 256 + y7 < 72057594037927936 := by omega
  generalize hA7 : a6 * 256 + y7 = a7 at ha7 hb7 ⊢
  have HA7 : Hid (a6 * 256 + y7 = a7) := hA7
  clear hA7
  rw [rounds_succ]
  go_wp2_with fail
  refine (sizeOf_any _ _ (by omega) (by omega)).mono ?_
  rintro e w2 ⟨rfl, rfl⟩
  have HV : Hid (Num.V l 8 7 = a7) := by
    obtain ⟨e0, e1, e2, e3, e4, e5, e6, e7⟩ := HX.out
    have f1 := HA1.out
    have f2 := HA2.out
    have f3 := HA3.out
    have f4 := HA4.out
    have f5 := HA5.out
    have f6 := HA6.out
    have f7 := HA7.out
    show _ = _
    simp only [Num.V, Nat.reduceAdd, Nat.zero_add, e0, e1, e2, e3, e4, e5, e6, e7, show Num.head 8 x = 0 from rfl]
    omega
  by_cases hsz : Num.sz a7 = 8
  · have hq : ((Num.sz a7 : Int) != 8) = false := by rw [bne_eq_false_iff_eq, hsz]; rfl
    have HSZ : Hid (Num.sz a7 = 8) := hsz
    clear hsz
    by_cases hm : most < a7
    · go_wp2
      all_goals go_ret2
      all_goals exact NumPost.bad nq (Or.inr (by show most < Num.V l 8 7; rw [HV.out]; exact hm))
    · have hm' : a7 ≤ most := by omega
      go_wp2
      all_goals go_ret2
      · exact NumPost.ok nq a7 HV.out HSZ.out hm' _ _ _ (fun h => by omega) (Or.inl rfl) rfl (by omega)
      · exact NumPost.ok nq a7 HV.out HSZ.out hm' _ _ _ (fun _ => rfl) (Or.inr rfl) rfl rfl
  · have hq : ((Num.sz a7 : Int) != 8) = true := by rw [bne_iff_ne]; omega
    have HSZ : Hid (¬ Num.sz a7 = 8) := hsz
    clear hsz
    go_wp2
    all_goals go_ret2
    all_goals exact NumPost.bad nq (Or.inl (by show Num.sz (Num.V l 8 7) ≠ 8; rw [HV.out]; exact HSZ.out))
end Go.Proofs.Yteifaipbckhoiab
