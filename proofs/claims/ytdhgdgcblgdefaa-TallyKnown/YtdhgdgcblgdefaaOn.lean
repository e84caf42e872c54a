/- What tally.On and tally.Of answer. -/
import Derived.Test.YtdhgdgcblgdefaaBv
import Derived.Test.YtdhgdgcblgdefaaEq
namespace Go.Proofs.Ytdhgdgcblgdefaa
open Go.RowKit
set_option linter.unusedVariables false

/-- A call that answers the register s, and keeps what was. -/
def SumEnd (w : World) (s : BitVec 32) (e : Ending) (w' : World) : Prop := e = .returned (.int .u32 (s.toNat : Int)) ∧ Below w.heap.size w w'

theorem below_drewN {w w1 : World} {B : Nat} (h : Below B w w1) (n : Nat) : Below B w (w1.drewN n) := h.trans ⟨rfl, rfl, rfl, Nat.le_refl _, fun _ _ => rfl⟩

theorem reg_take_succ (r : BitVec 32) (l : List Int) (k : Nat) (h : k < l.length) : Crc.reg r (l.take (k + 1)) = Crc.one (Crc.reg r (l.take k)) (l.getD k 0) := by
  rw [List.take_succ_eq_append_getElem h, Crc.reg_append]
  rw [List.getD_eq_getElem?_getD, List.getElem?_eq_getElem h]
  rfl

set_option maxRecDepth 100000 in
set_option maxHeartbeats 4000000 in
theorem on_some (b off n cap : Nat) (s : BitVec 32) (w : World) (l : List Int) (hl : l.length = n) (h0 : 0 < n) (hb : n ≤ 140737488355328) (ha : Byt l) (hbw : b < w.heap.size)
    (h1 : ∀ i, i < n → w.cell? ⟨b, off + i, none⟩ = some (.int .u8 (l.getD i 0))) :
    Calls Try.prog 12 #[.int .u32 (s.toNat : Int), .slice (some ⟨b, off, none⟩) n cap] w fun e w' => SumEnd w (Crc.on s l) e w' := by
  have h0' : ((n : Int) == 0) = false := by rw [beq_eq_false_iff_ne]; omega
  have H1 := hd h1
  have HL : Hid (l.length = n) := hl
  have HA := hd ha
  have HBW := hd hbw
  clear h1 hl ha hbw
  have hnot := bnot s
  obtain ⟨r0, hr0⟩ : ∃ r0, ~~~ s = r0 := ⟨_, rfl⟩
  rw [hr0] at hnot
  have HR0 := hd hr0
  clear hr0
  generalize (s.toNat : Int) = σ at hnot
  go_enter Try.func12, Try.ntmps12
  go_wp2_with (go_at_call 19; refine (halves_ok _).mono ?_; rintro e w1 ⟨rfl, hk⟩; have HK := hd hk; clear hk)
  generalize hw2 : w1.alloc _ = w2
  generalize Value.agg _ = tv
  have HW : Hid (Below w.heap.size w w2) := hw2 ▸ (HK.out.alloc HK.out.size _)
  have H2 : Hid (∀ i, i < n → w2.cell? ⟨b, off + i, none⟩ = some (.int .u8 (l.getD i 0))) := fun i hi => by
    rw [(kpB HW.out (fun _ => False)).cell (p := ⟨b, off + i, none⟩) HBW.out (fun h => h)]
    exact H1.out i hi
  have HT : Hid (∀ i, i < 16 → w2.cell? ⟨w1.heap.size, i, none⟩ = some (.int .u32 (Tab.nums.getD i 0))) := by
    have hh : ∀ i : Fin 16, (#[Value.int .u32 0, .int .u32 498536548, .int .u32 997073096, .int .u32 651767980, .int .u32 1994146192, .int .u32 1802195444, .int .u32 1303535960, .int .u32 1342533948, .int .u32 3988292384, .int .u32 4027552580, .int .u32 3604390888, .int .u32 3412177804, .int .u32 2607071920, .int .u32 2262029012, .int .u32 2685067896, .int .u32 3183342108] : Array Value)[i.val]? = some (.int .u32 (Tab.nums.getD i.val 0)) := by
      intro i
      match i with
      | ⟨0, _⟩ | ⟨1, _⟩ | ⟨2, _⟩ | ⟨3, _⟩ | ⟨4, _⟩ | ⟨5, _⟩ | ⟨6, _⟩ | ⟨7, _⟩ | ⟨8, _⟩ | ⟨9, _⟩ | ⟨10, _⟩ | ⟨11, _⟩ | ⟨12, _⟩ | ⟨13, _⟩ | ⟨14, _⟩ | ⟨15, _⟩ => rfl
      | ⟨j + 16, h⟩ => exact absurd h (by omega)
    intro i hi
    rw [← hw2, World.cell?_alloc_at (w := w1) _ _ _ _ rfl]
    exact hh ⟨i, hi⟩
  clear hw2 HK H1
  generalize w1.heap.size = tb at HT
  clear w1
  go_loopw [6, 18] (fun r i wr => ∃ k : Nat, k ≤ n ∧ i = .int .i64 k ∧ r = .int .u32 ((Crc.reg r0 (l.take k)).toNat : Int) ∧ ∃ m, wr = w2.drewN m) (fun _ i _ => n - (intOf i).toNat)
  case atStart => exact ⟨0, Nat.zero_le _, rfl, rfl, 0, rfl⟩
  case round =>
    obtain ⟨k, hk, rfl, rfl, m, rfl⟩ := hrel
    by_cases hlt : k < n
    · have c1 := H2.out k hlt
      have hlt' : (k : Int) < (n : Int) := by omega
      have hx := HA.out.get k
      have HS : Hid (Crc.reg r0 (l.take (k + 1)) = Crc.one (Crc.reg r0 (l.take k)) (l.getD k 0)) := reg_take_succ r0 l k (by rw [HL.out]; exact hlt)
      generalize l.getD k 0 = x at c1 hx HS
      generalize Crc.reg r0 (l.take k) = r at HS
      have e1 := bxor_byte r x hx.1 hx.2
      obtain ⟨r1, hr1⟩ : ∃ r1, r ^^^ Crc.byt x = r1 := ⟨_, rfl⟩
      rw [hr1] at e1
      have e2 := band15 r1
      have b2 := and15_lt r1
      have e3 := half_step r1
      have c2 := HT.out _ b2
      generalize (r1 &&& 15#32).toNat = i1 at e2 b2 e3 c2
      generalize Tab.nums.getD i1 0 = t1 at e3 c2
      obtain ⟨r2, hr2⟩ : ∃ r2, Crc.stn 4 r1 = r2 := ⟨_, rfl⟩
      rw [hr2] at e3
      have e4 := band15 r2
      have b4 := and15_lt r2
      have e5 := half_step r2
      have c4 := HT.out _ b4
      generalize (r2 &&& 15#32).toNat = i2 at e4 b4 e5 c4
      generalize Tab.nums.getD i2 0 = t2 at e5 c4
      obtain ⟨r3, hr3⟩ : ∃ r3, Crc.stn 4 r2 = r3 := ⟨_, rfl⟩
      rw [hr3] at e5
      have HR : Hid (Crc.reg r0 (l.take (k + 1)) = r3) := hd (by
        rw [HS.out, ← hr3, ← hr2, ← hr1]
        unfold Crc.one
        rw [show (8 : Nat) = 4 + 4 from rfl, Crc.stn_add])
      have b2' : (i1 : Int) < 16 := by omega
      have b4' : (i2 : Int) < 16 := by omega
      clear hr1 hr2 hr3 HS
      generalize (r.toNat : Int) = ρ at e1
      generalize (r1.toNat : Int) = ρ1 at e1 e2 e3
      generalize (r2.toNat : Int) = ρ2 at e3 e4 e5
      go_wp2
      go_roundw
      case rel => exact ⟨k + 1, by omega, by go_num, by rw [HR.out], m, rfl⟩
      case measure => simp [intOf]; omega
    · have hkn : k = n := by omega
      subst hkn
      have HO : Hid (~~~ Crc.reg r0 (l.take k) = Crc.on s l) := hd (by
        rw [List.take_of_length_le (by rw [HL.out]; exact Nat.le_refl _), ← HR0.out]
        rfl)
      have hn := bnot (Crc.reg r0 (l.take k))
      generalize hq : ~~~ Crc.reg r0 (l.take k) = q at hn
      have HQ := hd hq
      clear hq hnot
      generalize ((Crc.reg r0 (l.take k)).toNat : Int) = ρ at hn
      go_wp2
      all_goals go_ret
      all_goals exact ⟨by rw [← HO.out, HQ.out]; rfl, below_drewN HW.out m⟩

theorem on_nil (s : BitVec 32) (a : Option Addr) (cap : Nat) (w : World) :
    Calls Try.prog 12 #[.int .u32 (s.toNat : Int), .slice a 0 cap] w fun e w' => SumEnd w s e w' := by
  generalize hs : (s.toNat : Int) = σ
  have HS := hd hs
  clear hs
  go_enter Try.func12, Try.ntmps12
  go_wp2
  go_ret
  exact ⟨by rw [HS.out]; rfl, Below.refl _ _⟩

/-- A row of bytes that is there, or an empty one, wherever it lies. -/
def Bx (w : World) (v : Value) (l : List Int) : Prop := Bs (fun _ => True) w v l ∨ (l = [] ∧ ∃ x cap, v = .slice x 0 cap)

theorem on_any {w : World} {v : Value} {l : List Int} (s : BitVec 32) (h : Bx w v l) :
    Calls Try.prog 12 #[.int .u32 (s.toNat : Int), v] w fun e w' => SumEnd w (Crc.on s l) e w' := by
  rcases h with ⟨a1, a2, a3⟩ | ⟨rfl, x, cap, rfl⟩
  · rcases a3 with ⟨rfl, rfl⟩ | ⟨x1, x2, x3, rfl, x5, x6, x7, x8⟩
    · rw [Crc.on_nil]; exact on_nil s none 0 w
    · by_cases h0 : l.length = 0
      · have e1 : l = [] := List.length_eq_zero_iff.1 h0
        subst e1
        rw [Crc.on_nil]; exact on_nil s _ _ w
      · exact on_some x1 x2 l.length x3 s w l rfl (by omega) a2 a1 x7 x8
  · rw [Crc.on_nil]; exact on_nil s _ _ w

theorem of_any {w : World} {v : Value} {l : List Int} (h : Bx w v l) :
    Calls Try.prog 10 #[v] w fun e w' => SumEnd w (Crc.on 0#32 l) e w' := by
  have H : Hid (Calls Try.prog 12 #[.int .u32 0, v] w fun e w' => SumEnd w (Crc.on 0#32 l) e w') := on_any 0#32 h
  clear h
  go_enter Try.func10, Try.ntmps10
  go_wp2_with (go_at_call 12; refine H.out.mono ?_; rintro e w1 ⟨rfl, hk⟩; have HK := hd hk; clear hk)
  go_ret
  exact ⟨rfl, HK.out⟩

end Go.Proofs.Ytdhgdgcblgdefaa
