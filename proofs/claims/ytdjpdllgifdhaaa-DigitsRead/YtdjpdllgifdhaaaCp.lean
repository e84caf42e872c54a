/- bytes.Compare, bytes.Equal and bytes.HasPrefix of rows of bytes. -/
import Derived.Test.YtdjpdllgifdhaaaBr
import Derived.Test.YtdjpdllgifdhaaaCm
import Derived.Lib.BytesEntry
namespace Go.Proofs.Ytdjpdllgifdhaaa
open Go.RowKit
set_option linter.unusedVariables false

theorem run_bytesOf_bs {P : Program} {A : Nat → Prop} {w : World} {v : Value} {l : List Int} (h : Bs A w v l) : (Extern.Bytes.bytesOf v).run P w = .ok ⟨(Lib.bytesOf l).toArray⟩ w := by
  obtain ⟨_, _, h3⟩ := h
  rcases h3 with ⟨rfl, rfl⟩ | ⟨b, off, cap, rfl, _, _, _, hcell⟩
  · rfl
  · have hl := Lib.run_loadBytesX (P := P) w l ⟨b, off, none⟩ .empty (fun j x hj => by
      have hjl : j < l.length := (List.getElem?_eq_some_iff.1 hj).1
      rw [Addr.add_lit, hcell j hjl, List.getD_eq_getElem?_getD, hj]
      rfl)
    have he : (⟨ByteArray.empty.data ++ (Lib.bytesOf l).toArray⟩ : ByteArray) = ⟨(Lib.bytesOf l).toArray⟩ := by
      apply ByteArray.ext
      show (#[] : Array UInt8) ++ (Lib.bytesOf l).toArray = (Lib.bytesOf l).toArray
      simp
    rw [he] at hl
    exact hl

theorem u8_lt (a b : Int) (ha : 0 ≤ a ∧ a ≤ 255) (hb : 0 ≤ b ∧ b ≤ 255) : (UInt8.ofNat a.toNat < UInt8.ofNat b.toNat) ↔ a < b := by
  rw [UInt8.lt_iff_toNat_lt, UInt8.toNat_ofNat', UInt8.toNat_ofNat']
  omega

theorem cmp_bytes : ∀ (l m : List Int), Byt l → Byt m → Lib.compareBytes (Lib.bytesOf l) (Lib.bytesOf m) = Num.cmpI l m
  | [], [], _, _ => rfl
  | [], _ :: _, _, _ => rfl
  | _ :: _, [], _, _ => rfl
  | x :: l, y :: m, hl, hm => by
    have ih := cmp_bytes l m (fun z hz => hl z (List.mem_cons_of_mem _ hz)) (fun z hz => hm z (List.mem_cons_of_mem _ hz))
    have hx := hl x (List.mem_cons_self ..)
    have hy := hm y (List.mem_cons_self ..)
    have e1 := u8_lt x y hx hy
    have e2 := u8_lt y x hy hx
    show (if UInt8.ofNat x.toNat < UInt8.ofNat y.toNat then -1 else if UInt8.ofNat y.toNat < UInt8.ofNat x.toNat then 1 else Lib.compareBytes (Lib.bytesOf l) (Lib.bytesOf m)) = _
    unfold Num.cmpI
    rw [ih]
    simp only [e1, e2]

theorem run_compare_bs {P : Program} {A B : Nat → Prop} {w : World} {va vb : Value} {la lb : List Int} (ha : Bs A w va la) (hb : Bs B w vb lb) :
    (Extern.BytealgCompare.compare #[va, vb]).run P w = .ok (.int .i64 (Num.cmpI la lb)) w := by
  change Sem.run P (do pure (goInt (Extern.BytealgCompare.cmp (← Extern.Bytes.bytesOf va) (← Extern.Bytes.bytesOf vb)))) w = _
  simp only [Sem.run_bind, Sem.run_pure, run_bytesOf_bs ha, run_bytesOf_bs hb, Result.andThen]
  rw [Lib.cmp_eq, ← cmp_bytes la lb ha.1 hb.1]
  rfl

set_option maxHeartbeats 400000 in
theorem compare_any {A B : Nat → Prop} {w : World} {va vb : Value} {la lb : List Int} (ha : Bs A w va la) (hb : Bs B w vb lb) :
    Calls Try.prog 36 #[va, vb] w fun e w' => e = .returned (.int .i64 (Num.cmpI la lb)) ∧ w' = w := by
  have hrun : (callFunc 53 #[va, vb]).run Try.prog w = .ok (.value (.int .i64 (Num.cmpI la lb))) w := by
    rw [run_callFunc_extern Try.func53 (by kernel_rfl) (by kernel_rfl) (by kernel_rfl) (e := Extern.BytealgCompare.compare) (by kernel_rfl), run_compare_bs ha hb]
    rfl
  clear ha hb
  go_enter Try.func36, Try.ntmps36
  go_wp2
  go_ret
  exact ⟨rfl, rfl⟩

theorem strOf_eq (l m : List Int) (hl : Byt l) (hm : Byt m) : (strOfNums l = strOfNums m) ↔ l = m := by
  constructor
  · intro h
    have h1 : (strOfNums l).data.toList = (strOfNums m).data.toList := by rw [h]
    rw [strOfNums_data, strOfNums_data] at h1
    have h2 : ∀ (l m : List Int), Byt l → Byt m → (l.map fun n => UInt8.ofNat n.toNat) = (m.map fun n => UInt8.ofNat n.toNat) → l = m := by
      intro l
      induction l with
      | nil => intro m _ _ h; cases m with
        | nil => rfl
        | cons y m => cases h
      | cons x l ih =>
        intro m hl hm h
        cases m with
        | nil => cases h
        | cons y m =>
          simp only [List.map_cons, List.cons.injEq] at h
          have hx := hl x (List.mem_cons_self ..)
          have hy := hm y (List.mem_cons_self ..)
          have e : x = y := by
            have := congrArg UInt8.toNat h.1
            rw [UInt8.toNat_ofNat', UInt8.toNat_ofNat'] at this
            omega
          rw [e, ih m (fun z hz => hl z (List.mem_cons_of_mem _ hz)) (fun z hz => hm z (List.mem_cons_of_mem _ hz)) h.2]
    exact h2 l m hl hm h1
  · intro h; rw [h]

theorem strOf_beq (l m : List Int) (hl : Byt l) (hm : Byt m) : ((strOfNums l).toList == (strOfNums m).toList) = decide (l = m) := by
  have h := strOf_eq l m hl hm
  by_cases e : l = m
  · subst e; simp
  · rw [decide_eq_false e, beq_eq_false_iff_ne]
    intro h'
    rw [ByteArray.toList_eq, ByteArray.toList_eq] at h'
    exact e (h.1 (ByteArray.ext (Array.toList_inj.1 h')))

set_option maxHeartbeats 400000 in
theorem equal_any {A B : Nat → Prop} {w : World} {va vb : Value} {la lb : List Int} (ha : Bs A w va la) (hb : Bs B w vb lb) :
    Calls Try.prog 52 #[va, vb] w fun e w' => e = .returned (.bool (decide (la = lb))) ∧ w' = w := by
  have h1 := conv_bs ha
  have h2 := conv_bs hb
  have HE := hd (strOf_beq la lb ha.1 hb.1)
  clear ha hb
  go_enter Try.func52, Try.ntmps52
  go_wp2
  go_ret
  exact ⟨congrArg (fun x => Ending.returned (Value.bool x)) HE.out, rfl⟩

set_option maxHeartbeats 400000 in
theorem prefix_no (a b : Option Addr) (n m c d : Nat) (w : World) (h : n < m) :
    Calls Try.prog 35 #[.slice a n c, .slice b m d] w fun e w' => e = .returned (.bool false) ∧ w' = w := by
  have h' : decide ((m : Int) ≤ (n : Int)) = false := by rw [decide_eq_false_iff_not]; omega
  go_enter Try.func35, Try.ntmps35
  go_wp2
  go_ret
  exact ⟨rfl, rfl⟩

set_option maxHeartbeats 400000 in
theorem prefix_some {A B : Nat → Prop} (b off n c : Nat) (vb : Option Addr) (m d : Nat) (w : World) (lp lb : List Int) (h : m ≤ n) (hc : n ≤ c) (hp : Bs A w (.slice (some ⟨b, off, none⟩) m c) lp) (hb : Bs B w (.slice vb m d) lb) :
    Calls Try.prog 35 #[.slice (some ⟨b, off, none⟩) n c, .slice vb m d] w fun e w' => e = .returned (.bool (decide (lp = lb))) ∧ w' = w := by
  have h' : (m : Int) ≤ (n : Int) := by omega
  have hc' : (n : Int) ≤ (c : Int) := by omega
  have HP := hd hp
  have HB := hd hb
  clear hp hb
  go_enter Try.func35, Try.ntmps35
  go_wp2_with (go_at_call 52; refine (equal_any HP.out HB.out).mono ?_; rintro e w' ⟨rfl, rfl⟩)
  go_ret
  exact ⟨rfl, rfl⟩

set_option maxHeartbeats 400000 in
theorem prefix_nil {B : Nat → Prop} (vb : Option Addr) (d : Nat) (w : World) (hb : Bs B w (.slice vb 0 d) []) :
    Calls Try.prog 35 #[.slice none 0 0, .slice vb 0 d] w fun e w' => e = .returned (.bool true) ∧ w' = w := by
  have HB := hd hb
  have HP := hd (Bs.ofNil (fun _ => True) w)
  clear hb
  go_enter Try.func35, Try.ntmps35
  go_wp2_with (go_at_call 52; refine (equal_any HP.out HB.out).mono ?_; rintro e w' ⟨rfl, rfl⟩)
  go_ret
  exact ⟨rfl, rfl⟩

/-- bytes.HasPrefix: whether the one row is the beginning of the other. -/
theorem prefix_any {A B : Nat → Prop} {w : World} {va vb : Value} {la lb : List Int} (ha : Bs A w va la) (hb : Bs B w vb lb) :
    Calls Try.prog 35 #[va, vb] w fun e w' => e = .returned (.bool (decide (la.take lb.length = lb))) ∧ w' = w := by
  have hb' := hb
  obtain ⟨b', d, rfl⟩ := hb.len
  by_cases hn : la.length < lb.length
  · obtain ⟨a', c, rfl⟩ := ha.len
    refine (prefix_no a' b' _ _ c d w hn).mono ?_
    rintro e w' ⟨rfl, rfl⟩
    refine ⟨?_, rfl⟩
    rw [decide_eq_false]
    intro h
    have := congrArg List.length h
    rw [List.length_take] at this
    omega
  · obtain ⟨a1, a2, a3⟩ := ha
    rcases a3 with ⟨rfl, rfl⟩ | ⟨x1, x2, x3, rfl, x5, x6, x7, x8⟩
    · have h0 : lb.length = 0 := by simpa using hn
      have e0 : lb = [] := List.length_eq_zero_iff.1 h0
      subst e0
      exact prefix_nil b' d w hb'
    · exact prefix_some x1 x2 la.length x3 b' lb.length d w (la.take lb.length) lb (by omega) x5 (Bs.front (A := A) a1 a2 x5 x6 x7 x8 (by omega)) hb'

end Go.Proofs.Ytdjpdllgifdhaaa
