/- TallyAdd: whatever the three rows: the law answers true, what is handed in reads as before; no conditions. -/
import Derived.Test.YtdhgdgcblgdefaaX8
import Derived.Test.YtdhgdgcblgdefaaLt
import Derived.Test.YtdhgdgcblgdefaaRows
import Derived.ProofKit
import Derived.OpenShut
import Derived.ShutString
import Derived.ChangeOld
import Derived.SizedLaws
namespace Go.Proofs.Ytdhgdgcblgdefaa.tallyAdd
open Go.ChangeShapes Go.WideShapes Go.ChangeAt Go.RowKit
open Go.ChangeMaps (open_string shut_string)
set_option linter.unusedVariables false

/-- The bytes that are added, at a place. -/
def X (xa xb xc : List Int) (j : Nat) : Int := bits .xor .u8 (bits .xor .u8 (xa.getD j 0) (xb.getD j 0)) (xc.getD j 0)

theorem X_bd (xa xb xc : List Int) (ha : Byt xa) (hb : Byt xb) (hc : Byt xc) (j : Nat) : (0 ≤ X xa xb xc j ∧ X xa xb xc j ≤ 255) ∧ Crc.byt (X xa xb xc j) = Crc.byt (xa.getD j 0) ^^^ Crc.byt (xb.getD j 0) ^^^ Crc.byt (xc.getD j 0) := by
  have h1 := xor8 _ _ (ha.get j) (hb.get j)
  have h2 := xor8 _ _ h1.1 (hc.get j)
  refine ⟨h2.1, ?_⟩
  rw [← h1.2]
  exact h2.2

/-- What is there behind k rounds. -/
def Inv (db n k : Nat) (w1 : World) (f : Nat → Int) (wr : World) : Prop :=
  wr.rowIs db 5 n (fun j => .int .u8 (if j < k then f j else 0)) ∧ Kp (fun b => b = db) w1 wr

theorem Inv.step {db n k : Nat} {w1 wr : World} {f : Nat → Int} (h : Inv db n k w1 f wr) (v : Int) (hv : v = f k) : Inv db n (k + 1) w1 f (wr.setCell ⟨db, k, none⟩ (.int .u8 v)) := by
  subst hv
  refine ⟨(h.1.set k _).congr (fun i _ => ?_), h.2.setCell _ _ (fun _ => rfl)⟩
  by_cases h1 : i = k
  · subst h1; simp
  · by_cases h2 : i < k
    · simp [h1, h2, show i < k + 1 by omega]
    · simp [h1, h2, show ¬ i < k + 1 by omega]

theorem Inv.drew {db n k : Nat} {w1 wr : World} {f : Nat → Int} (h : Inv db n k w1 f wr) : Inv db n k w1 f wr.drew :=
  ⟨h.1, ⟨h.2.os, h.2.tape, h.2.output, h.2.size, h.2.block⟩⟩

/-- The row that was made. -/
def D (xa xb xc : List Int) (n : Nat) : List Int := (List.range n).map (X xa xb xc)

theorem D_on (xa xb xc : List Int) (n : Nat) (ha : Byt xa) (hb : Byt xb) (hc : Byt xc) (la : xa.length = n) (lb : xb.length = n) (lc : xc.length = n) :
    Crc.on 0#32 (D xa xb xc n) = Crc.on 0#32 xa ^^^ Crc.on 0#32 xb ^^^ Crc.on 0#32 xc := by
  unfold D
  refine Crc.on_add3 xa xb xc _ (by simpa using la) (by simpa using lb) (by simpa using lc) (fun i hi => ?_)
  have hi' : i < n := by simpa using hi
  rw [List.getD_eq_getElem?_getD, List.getElem?_map, List.getElem?_range hi']
  exact (X_bd xa xb xc ha hb hc i).2

theorem D_get (xa xb xc : List Int) (n i : Nat) (h : i < n) : (D xa xb xc n).getD i 0 = X xa xb xc i := by
  unfold D
  rw [List.getD_eq_getElem?_getD, List.getElem?_map, List.getElem?_range h]
  rfl

theorem Inv.bx {db n : Nat} {w1 wr : World} {xa xb xc : List Int} (ha : Byt xa) (hb : Byt xb) (hc : Byt xc) (hn : n ≤ 5000) (h : Inv db n n w1 (X xa xb xc) wr) : Bx wr (.slice (some ⟨db, 0, none⟩) n n) (D xa xb xc n) := by
  have hl : (D xa xb xc n).length = n := by simp [D]
  refine Or.inl ⟨?_, by omega, Or.inr ⟨db, 0, n, by rw [hl], by omega, trivial, h.1.lt, fun i hi => ?_⟩⟩
  · intro y hy
    unfold D at hy
    obtain ⟨j, _, rfl⟩ := List.mem_map.1 hy
    exact (X_bd xa xb xc ha hb hc j).1
  · rw [hl] at hi
    rw [Nat.zero_add, h.1.cell hi, D_get _ _ _ _ _ hi]
    simp [hi]

set_option maxRecDepth 100000 in
set_option maxHeartbeats 4000000 in
theorem walkN (ba oa la ca bb ob lb cb bc oc lc cc n : Nat) (xa xb xc : List Int) (w : World)
    (hca : la ≤ ca) (hcb : lb ≤ cb) (hcc : lc ≤ cc) (h1 : n ≤ la) (h2 : n ≤ lb) (h3 : n ≤ lc) (h4 : n ≤ 5000) (hmin : n = la ∨ n = lb ∨ n = lc ∨ n = 5000)
    (ka : ba < w.heap.size) (kb : bb < w.heap.size) (kc : bc < w.heap.size)
    (ga : ∀ i, i < n → w.cell? ⟨ba, oa + i, none⟩ = some (.int .u8 (xa.getD i 0))) (gb : ∀ i, i < n → w.cell? ⟨bb, ob + i, none⟩ = some (.int .u8 (xb.getD i 0))) (gc : ∀ i, i < n → w.cell? ⟨bc, oc + i, none⟩ = some (.int .u8 (xc.getD i 0)))
    (hxa : Bx w (.slice (some ⟨ba, oa, none⟩) n ca) xa) (hxb : Bx w (.slice (some ⟨bb, ob, none⟩) n cb) xb) (hxc : Bx w (.slice (some ⟨bc, oc, none⟩) n cc) xc)
    (hla : xa.length = n) (hlb : xb.length = n) (hlc : xc.length = n) (hya : Byt xa) (hyb : Byt xb) (hyc : Byt xc) :
    Calls Try.prog 7 #[.slice (some ⟨ba, oa, none⟩) la ca, .slice (some ⟨bb, ob, none⟩) lb cb, .slice (some ⟨bc, oc, none⟩) lc cc] w fun e w' => TrueEnd w e w' := by
  have hca' : (n : Int) ≤ (ca : Int) := by omega
  have hcb' : (n : Int) ≤ (cb : Int) := by omega
  have hcc' : (n : Int) ≤ (cc : Int) := by omega
  have h1' : (n : Int) ≤ (la : Int) := by omega
  have h2' : (n : Int) ≤ (lb : Int) := by omega
  have h3' : (n : Int) ≤ (lc : Int) := by omega
  have hmn := fun w => run_min4 w la lb lc n h1 h2 h3 h4 hmin
  have hmk := run_make5 n h4
  have XA := hd hxa
  have XB := hd hxb
  have XC := hd hxc
  have GA := hd ga
  have GB := hd gb
  have GC := hd gc
  have YA := hd hya
  have YB := hd hyb
  have YC := hd hyc
  have LL : Hid (xa.length = n ∧ xb.length = n ∧ xc.length = n) := ⟨hla, hlb, hlc⟩
  have KK : Hid (ba < w.heap.size ∧ bb < w.heap.size ∧ bc < w.heap.size) := ⟨ka, kb, kc⟩
  clear hxa hxb hxc ga gb gc hya hyb hyc hla hlb hlc hmin ka kb kc
  go_enter Try.func7, Try.ntmps7
  go_wp2_with fail
  refine (works_true _).mono ?_
  rintro e w0 ⟨rfl, hk⟩
  have B0 := hd hk
  clear hk
  go_wp2_with fail
  have I0 : Hid (Inv w0.heap.size n 0 (w0.alloc (.cells (madeCells #[.int .u8 0] n) 5)) (X xa xb xc) (w0.alloc (.cells (madeCells #[.int .u8 0] n) 5))) :=
    ⟨(World.rowIs_made w0 (.int .u8 0) n 5).congr (fun i _ => by simp), Kp.refl _ _⟩
  have B1 : Hid (Below w.heap.size w (w0.alloc (.cells (madeCells #[.int .u8 0] n) 5))) := B0.out.alloc B0.out.size _
  have N1 : Hid (w.heap.size ≤ w0.heap.size) := B0.out.size
  generalize w0.alloc (.cells (madeCells #[.int .u8 0] n) 5) = w1 at I0 B1
  generalize w0.heap.size = db at I0 N1
  clear B0 hmn hmk
  go_loopw [9] (fun i wr => ∃ k : Nat, k ≤ n ∧ i = .int .i64 k ∧ Inv db n k w1 (X xa xb xc) wr) (fun i _ => n - (intOf i).toNat)
  case atStart => exact ⟨0, Nat.zero_le _, rfl, I0.out⟩
  case round =>
    obtain ⟨k, hk, rfl, hinv⟩ := hrel
    have HI := hd hinv
    have BR : Hid (Below w.heap.size w wr) := B1.out.trans (hinv.2.below w.heap.size B1.out.size (fun i hi e => by have := N1.out; have e' : i = db := e; omega))
    clear hinv I0
    by_cases hlt : k < n
    · have hlt' : (k : Int) < (n : Int) := by omega
      have hla' : (k : Int) < (la : Int) := by omega
      have hlb' : (k : Int) < (lb : Int) := by omega
      have hlc' : (k : Int) < (lc : Int) := by omega
      have c1 : wr.cell? ⟨ba, oa + k, none⟩ = _ := (BR.out.cell (p := ⟨ba, oa + k, none⟩) KK.out.1).trans (GA.out k hlt)
      have c2 : wr.cell? ⟨bb, ob + k, none⟩ = _ := (BR.out.cell (p := ⟨bb, ob + k, none⟩) KK.out.2.1).trans (GB.out k hlt)
      have c3 : wr.cell? ⟨bc, oc + k, none⟩ = _ := (BR.out.cell (p := ⟨bc, oc + k, none⟩) KK.out.2.2).trans (GC.out k hlt)
      have c4 := HI.out.1.cell hlt
      have c5 := HI.out.1.frozen k
      have HX : Hid (bits .xor .u8 (bits .xor .u8 (xa.getD k 0) (xb.getD k 0)) (xc.getD k 0) = X xa xb xc k) := hd rfl
      generalize xa.getD k 0 = x at c1 HX
      generalize xb.getD k 0 = y at c2 HX
      generalize xc.getD k 0 = z at c3 HX
      generalize (Value.int .u8 (if k < k then X xa xb xc k else 0)) = q at c4
      go_wp2
      go_region
      go_wp2
      go_roundw
      case rel => exact ⟨k + 1, by omega, by go_num, (HI.out.step _ HX.out).drew⟩
      case measure => simp [intOf]; omega
    · have hkn : k = n := by omega
      subst hkn
      have P0 := hd (HI.out.bx YA.out YB.out YC.out h4)
      have e1 := bxor (Crc.on 0#32 xa) (Crc.on 0#32 xb)
      have e2 := bxor (Crc.on 0#32 xa ^^^ Crc.on 0#32 xb) (Crc.on 0#32 xc)
      rw [← D_on xa xb xc k YA.out YB.out YC.out LL.out.1 LL.out.2.1 LL.out.2.2] at e2
      generalize Crc.on 0#32 xa ^^^ Crc.on 0#32 xb = ab at e1 e2
      clear HI
      have XA1 := hd (XA.out.keep BR.out)
      have XB1 := hd (XB.out.keep BR.out)
      have XC1 := hd (XC.out.keep BR.out)
      have hany := Ltr.any wr
      clear XA XB XC GA GB GC YA YB YC LL KK
      go_wp2_with fail
      refine wp_region_later (by kernel_rfl) (by kernel_rfl) ?_
      repeat (go_big_quiet_step (first | exact later_of (of_any (P0.out.keep (Ltr.bel _))) | exact later_of (of_any (XA1.out.keep (Ltr.bel _))) | exact later_of (of_any (XB1.out.keep (Ltr.bel _))) | exact later_of (of_any (XC1.out.keep (Ltr.bel _)))))
      refine wpQuiet_nil ?_
      rintro _ ⟨p, rfl⟩
      go_wp2_with fail
      go_ret
      refine ⟨?_, below_below BR.out p.bel⟩
      rfl

set_option maxRecDepth 100000 in
set_option maxHeartbeats 4000000 in
theorem walkZ (a : Option Addr) (la ca : Nat) (b : Option Addr) (lb cb : Nat) (c : Option Addr) (lc cc n : Nat) (hn0 : n = 0) (xa xb xc : List Int) (w : World)
    (hca : la ≤ ca) (hcb : lb ≤ cb) (hcc : lc ≤ cc) (h1 : n ≤ la) (h2 : n ≤ lb) (h3 : n ≤ lc) (h4 : n ≤ 5000) (hmin : n = la ∨ n = lb ∨ n = lc ∨ n = 5000)
    (hxa : Bx w (.slice a n ca) xa) (hxb : Bx w (.slice b n cb) xb) (hxc : Bx w (.slice c n cc) xc)
    (hla : xa.length = n) (hlb : xb.length = n) (hlc : xc.length = n) (hya : Byt xa) (hyb : Byt xb) (hyc : Byt xc) :
    Calls Try.prog 7 #[.slice a la ca, .slice b lb cb, .slice c lc cc] w fun e w' => TrueEnd w e w' := by
  have hca' : (n : Int) ≤ (ca : Int) := by omega
  have hcb' : (n : Int) ≤ (cb : Int) := by omega
  have hcc' : (n : Int) ≤ (cc : Int) := by omega
  have h1' : (n : Int) ≤ (la : Int) := by omega
  have h2' : (n : Int) ≤ (lb : Int) := by omega
  have h3' : (n : Int) ≤ (lc : Int) := by omega
  have hmn := fun w => run_min4 w la lb lc n h1 h2 h3 h4 hmin
  have hmk := run_make5 n h4
  have HN := hd hn0
  clear hn0
  have XA := hd hxa
  have XB := hd hxb
  have XC := hd hxc
  have YA := hd hya
  have YB := hd hyb
  have YC := hd hyc
  have LL : Hid (xa.length = n ∧ xb.length = n ∧ xc.length = n) := ⟨hla, hlb, hlc⟩
  clear hxa hxb hxc hya hyb hyc hla hlb hlc hmin
  go_enter Try.func7, Try.ntmps7
  go_wp2_with fail
  refine (works_true _).mono ?_
  rintro e w0 ⟨rfl, hk⟩
  have B0 := hd hk
  clear hk
  go_wp2_with fail
  have I0 : Hid (Inv w0.heap.size n 0 (w0.alloc (.cells (madeCells #[.int .u8 0] n) 5)) (X xa xb xc) (w0.alloc (.cells (madeCells #[.int .u8 0] n) 5))) :=
    ⟨(World.rowIs_made w0 (.int .u8 0) n 5).congr (fun i _ => by simp), Kp.refl _ _⟩
  have B1 : Hid (Below w.heap.size w (w0.alloc (.cells (madeCells #[.int .u8 0] n) 5))) := B0.out.alloc B0.out.size _
  have N1 : Hid (w.heap.size ≤ w0.heap.size) := B0.out.size
  generalize w0.alloc (.cells (madeCells #[.int .u8 0] n) 5) = w1 at I0 B1
  generalize w0.heap.size = db at I0 N1
  clear B0 hmn hmk
  go_loopw [9] (fun i wr => ∃ k : Nat, k ≤ n ∧ i = .int .i64 k ∧ Inv db n k w1 (X xa xb xc) wr) (fun i _ => n - (intOf i).toNat)
  case atStart => exact ⟨0, Nat.zero_le _, rfl, I0.out⟩
  case round =>
    obtain ⟨k, hk, rfl, hinv⟩ := hrel
    have HI := hd hinv
    have BR : Hid (Below w.heap.size w wr) := B1.out.trans (hinv.2.below w.heap.size B1.out.size (fun i hi e => by have := N1.out; have e' : i = db := e; omega))
    clear hinv I0
    by_cases hlt : k < n
    · exact absurd hlt (by have := HN.out; omega)
    · have hkn : k = n := by omega
      subst hkn
      have P0 := hd (HI.out.bx YA.out YB.out YC.out h4)
      have e1 := bxor (Crc.on 0#32 xa) (Crc.on 0#32 xb)
      have e2 := bxor (Crc.on 0#32 xa ^^^ Crc.on 0#32 xb) (Crc.on 0#32 xc)
      rw [← D_on xa xb xc k YA.out YB.out YC.out LL.out.1 LL.out.2.1 LL.out.2.2] at e2
      generalize Crc.on 0#32 xa ^^^ Crc.on 0#32 xb = ab at e1 e2
      clear HI
      have XA1 := hd (XA.out.keep BR.out)
      have XB1 := hd (XB.out.keep BR.out)
      have XC1 := hd (XC.out.keep BR.out)
      have hany := Ltr.any wr
      clear XA XB XC YA YB YC LL
      go_wp2_with fail
      refine wp_region_later (by kernel_rfl) (by kernel_rfl) ?_
      repeat (go_big_quiet_step (first | exact later_of (of_any (P0.out.keep (Ltr.bel _))) | exact later_of (of_any (XA1.out.keep (Ltr.bel _))) | exact later_of (of_any (XB1.out.keep (Ltr.bel _))) | exact later_of (of_any (XC1.out.keep (Ltr.bel _)))))
      refine wpQuiet_nil ?_
      rintro _ ⟨p, rfl⟩
      go_wp2_with fail
      go_ret
      refine ⟨?_, below_below BR.out p.bel⟩
      rfl

theorem spot {W : World} {a : Option Addr} {len cap : Nat} {zs : List Int} (h : IsRow .u8 W a len cap zs) (n : Nat) (hn : n ≤ len) (h0 : n ≠ 0) :
    ∃ b off, a = some ⟨b, off, none⟩ ∧ b < W.heap.size ∧ ∀ i, i < n → W.cell? ⟨b, off + i, none⟩ = some (.int .u8 ((zs.take n).getD i 0)) := by
  have F := h.front n hn
  have S := F.1.some (by rw [F.2.1]; exact h0)
  obtain ⟨_, _, h3⟩ := S
  rcases h3 with ⟨_, h3⟩ | ⟨b, off, c, hv, _, _, hlt, hc⟩
  · have := F.2.1
    rw [h3] at this
    exact absurd this.symm h0
  · simp only [Value.slice.injEq] at hv
    rw [F.2.1] at hc
    exact ⟨b, off, hv.1, hlt, hc⟩

theorem walk (a : Option Addr) (la ca : Nat) (za : List Int) (b : Option Addr) (lb cb : Nat) (zb : List Int) (c : Option Addr) (lc cc : Nat) (zc : List Int) (W : World)
    (ha : IsRow .u8 W a la ca za) (hb : IsRow .u8 W b lb cb zb) (hc : IsRow .u8 W c lc cc zc) :
    Calls Try.prog 7 #[.slice a la ca, .slice b lb cb, .slice c lc cc] W fun e W' => e = .returned (.bool true) ∧ Below W.heap.size W W' := by
  obtain ⟨n, h1, h2, h3, h4, hmin⟩ : ∃ n, n ≤ la ∧ n ≤ lb ∧ n ≤ lc ∧ n ≤ 5000 ∧ (n = la ∨ n = lb ∨ n = lc ∨ n = 5000) := by
    refine ⟨min (min la lb) (min lc 5000), ?_, ?_, ?_, ?_, ?_⟩ <;> omega
  have FA := ha.front n h1
  have FB := hb.front n h2
  have FC := hc.front n h3
  by_cases h0 : n = 0
  · exact walkZ a la ca b lb cb c lc cc n h0 _ _ _ W ha.cap.1 hb.cap.1 hc.cap.1 h1 h2 h3 h4 hmin FA.1 FB.1 FC.1 FA.2.1 FB.2.1 FC.2.1 FA.2.2 FB.2.2 FC.2.2
  · obtain ⟨ba, oa, rfl, ka, ga⟩ := spot ha n h1 h0
    obtain ⟨bb, ob, rfl, kb, gb⟩ := spot hb n h2 h0
    obtain ⟨bc, oc, rfl, kc, gc⟩ := spot hc n h3 h0
    exact walkN ba oa la ca bb ob lb cb bc oc lc cc n _ _ _ W ha.cap.1 hb.cap.1 hc.cap.1 h1 h2 h3 h4 hmin ka kb kc ga gb gc FA.1 FB.1 FC.1 FA.2.1 FB.2.1 FC.2.1 FA.2.2 FB.2.2 FC.2.2


theorem own : ownKnob Try.prog.godebug = none := by kernel_rfl
theorem laidOut : laidOutB Try.prog = true := by kernel_rfl
theorem bytes5 : Try.prog.bytesOf 5 = 1 := by kernel_rfl

set_option maxRecDepth 100000 in
theorem lifted (os : Os) (started : os.Started) (H : Type) (enc : TypeId × Value → H) :
    ReturnsInHanded {} Try.checked os 7 .any (Rows.tallyAddSpec.pre6 enc Try.prog Try.f7 Rows.tallyAddRow.domain false) (Rows.tallyAddSpec.post enc Try.prog Try.f7 false true false false) := by
  refine returnsInHanded_of_change_sized (C := Try.checked) own started (by kernel_rfl) Try.func7
    (ChangeSpec.witness6 (enc := enc) (C := Try.checked) false ⟨#[], #[.slice none 0 0, .slice none 0 0, .slice none 0 0], []⟩ 8 (by kernel_rfl) (by kernel_rfl) (by kernel_rfl) (by kernel_rfl)) ?_
  intro W base args ds gs before hval0 hW hcnd hsz0 _
  have hsz : (DataW.weightsEach Try.prog (Try.f7.params.toList ++ Rows.tallyAddSpec.plain.varTypes Try.prog) (ds ++ gs)).all (· ≤ reachBytes) = true := hsz0
  have hval : ∀ (j : Nat) t v, Try.f7.params[j]? = some t → args[j]? = some v → Value.okWide Try.prog W .any base t v := hval0
  have hW' := hW
  obtain ⟨p, q, hA0, hV, rfl, hfz, hnd⟩ := hW
  have hA : DataW.TrodAll enc Try.prog W 0 (fun _ => true) true Try.f7.params.toList args.toList ds p := hA0
  rw [Try.params7] at hA hval hsz
  obtain ⟨v0, vs0, d0, ds0, p0, q0, hargs, rfl, rfl, h0, r0⟩ := trodAll_cons hA
  obtain ⟨v1, vs1, d1, ds1, p1, q1, rfl, rfl, rfl, h1, r1⟩ := trodAll_cons r0
  obtain ⟨v2, vs2, d2, ds2, p2, q2, rfl, rfl, rfl, h2, r2⟩ := trodAll_cons r1
  obtain ⟨rfl, rfl, rfl⟩ := trodAll_nil r2
  obtain rfl : args = #[v0, v1, v2] := by cases args; simp_all
  obtain ⟨rfl, rfl⟩ := trodVars_none hV
  obtain ⟨a0, len0, cap0, rfl⟩ := okWide_slice Try.underlying23 (hval 0 23 v0 rfl rfl)
  have k0 := h0
  have lt0 : ∀ x ∈ p0, x.block < W.heap.size := by obtain ⟨m, hm⟩ := k0; exact DataW.trod_lt m _ _ _ hm
  obtain ⟨z0, w0⟩ : ∃ zs, IsRow .u8 W a0 len0 cap0 zs := by
    obtain ⟨fuel, hf⟩ := h0
    rcases open_ints Try.underlying23 Try.underlying5 (by kernel_rfl) hf with ⟨hcs, _⟩ | ⟨x, l, c, zs, hcs, _, hl, hm, hz, hdx, hcell, hwz⟩
    · simp [Value.cells] at hcs
      obtain ⟨rfl, rfl, rfl⟩ := hcs
      exact ⟨[], .inl ⟨rfl, rfl, rfl, rfl⟩⟩
    · simp [Value.cells] at hcs
      obtain ⟨rfl, rfl, rfl⟩ := hcs
      have hzl : zs.length = cap0 := by simpa using hz
      have hdd : d0 = .slice (lits .u8 (zs.take len0)) (lits .u8 (zs.drop len0)) := congrArg Prod.fst hdx
      have hw := sized_slice hsz (j := 0) (t := 23) (e := 5) rfl (by rw [hdd]; rfl) Try.underlying23
      rw [bytes5] at hw
      simp only [lits, List.length_map, List.length_take, List.length_drop, reachBytes] at hw
      exact ⟨zs, .inr ⟨_, rfl, hl, by omega, hzl, hcell, hwz⟩⟩
  obtain ⟨a1, len1, cap1, rfl⟩ := okWide_slice Try.underlying23 (hval 1 23 v1 rfl rfl)
  have k1 := h1
  have lt1 : ∀ x ∈ p1, x.block < W.heap.size := by obtain ⟨m, hm⟩ := k1; exact DataW.trod_lt m _ _ _ hm
  obtain ⟨z1, w1⟩ : ∃ zs, IsRow .u8 W a1 len1 cap1 zs := by
    obtain ⟨fuel, hf⟩ := h1
    rcases open_ints Try.underlying23 Try.underlying5 (by kernel_rfl) hf with ⟨hcs, _⟩ | ⟨x, l, c, zs, hcs, _, hl, hm, hz, hdx, hcell, hwz⟩
    · simp [Value.cells] at hcs
      obtain ⟨rfl, rfl, rfl⟩ := hcs
      exact ⟨[], .inl ⟨rfl, rfl, rfl, rfl⟩⟩
    · simp [Value.cells] at hcs
      obtain ⟨rfl, rfl, rfl⟩ := hcs
      have hzl : zs.length = cap1 := by simpa using hz
      have hdd : d1 = .slice (lits .u8 (zs.take len1)) (lits .u8 (zs.drop len1)) := congrArg Prod.fst hdx
      have hw := sized_slice hsz (j := 1) (t := 23) (e := 5) rfl (by rw [hdd]; rfl) Try.underlying23
      rw [bytes5] at hw
      simp only [lits, List.length_map, List.length_take, List.length_drop, reachBytes] at hw
      exact ⟨zs, .inr ⟨_, rfl, hl, by omega, hzl, hcell, hwz⟩⟩
  obtain ⟨a2, len2, cap2, rfl⟩ := okWide_slice Try.underlying23 (hval 2 23 v2 rfl rfl)
  have k2 := h2
  have lt2 : ∀ x ∈ p2, x.block < W.heap.size := by obtain ⟨m, hm⟩ := k2; exact DataW.trod_lt m _ _ _ hm
  obtain ⟨z2, w2⟩ : ∃ zs, IsRow .u8 W a2 len2 cap2 zs := by
    obtain ⟨fuel, hf⟩ := h2
    rcases open_ints Try.underlying23 Try.underlying5 (by kernel_rfl) hf with ⟨hcs, _⟩ | ⟨x, l, c, zs, hcs, _, hl, hm, hz, hdx, hcell, hwz⟩
    · simp [Value.cells] at hcs
      obtain ⟨rfl, rfl, rfl⟩ := hcs
      exact ⟨[], .inl ⟨rfl, rfl, rfl, rfl⟩⟩
    · simp [Value.cells] at hcs
      obtain ⟨rfl, rfl, rfl⟩ := hcs
      have hzl : zs.length = cap2 := by simpa using hz
      have hdd : d2 = .slice (lits .u8 (zs.take len2)) (lits .u8 (zs.drop len2)) := congrArg Prod.fst hdx
      have hw := sized_slice hsz (j := 2) (t := 23) (e := 5) rfl (by rw [hdd]; rfl) Try.underlying23
      rw [bytes5] at hw
      simp only [lits, List.length_map, List.length_take, List.length_drop, reachBytes] at hw
      exact ⟨zs, .inr ⟨_, rfl, hl, by omega, hzl, hcell, hwz⟩⟩
  clear hA0 hval0
  refine (walk a0 len0 cap0 z0 a1 len1 cap1 z1 a2 len2 cap2 z2 W w0 w1 w2).mono fun e W' ⟨he, bel⟩ => ?_
  subst he
  exact ⟨_, rfl, _, _, _, [], _, [], hW', trodAll_mk1 (shut_bool Try.underlying4 _), (trodAll_cons_mk (Below.trod laidOut (by kernel_rfl) (of_decide_eq_true (by kernel_rfl)) k0 bel lt0) (trodAll_cons_mk (Below.trod laidOut (by kernel_rfl) (of_decide_eq_true (by kernel_rfl)) k1 bel lt1) (trodAll_cons_mk (Below.trod laidOut (by kernel_rfl) (of_decide_eq_true (by kernel_rfl)) k2 bel lt2) trodAll_mk0))), rfl, bel.frame _, fun h => by cases h⟩

theorem over : Rows.tallyAddRow.holds Try.pinned (OpenSpec.ofChange Rows.tallyAddSpec) :=
  OpenClaim.holds_of_wide 7 Try.f7 rfl rfl rfl rfl rfl rfl rfl ⟨rfl, rfl, rfl, rfl, rfl⟩ rfl rfl rfl rfl rfl (by kernel_rfl) Try.func7 (by kernel_rfl)
    (of_decide_eq_true (by kernel_rfl)) (by unfold Func.isWrapper; first | (rw [if_pos (by decide +kernel)]; kernel_rfl) | (rw [if_neg (by decide +kernel)]; exact ⟨rfl, rfl⟩))
    (fun os started H enc _ => lifted os started H enc)

end Go.Proofs.Ytdhgdgcblgdefaa.tallyAdd
namespace Go.Proofs.Ytdhgdgcblgdefaa

/-- The statement. -/
theorem tallyAdd_proved : Rows.TallyAddSaid := tallyAdd.over
#print axioms tallyAdd_proved
end Go.Proofs.Ytdhgdgcblgdefaa
