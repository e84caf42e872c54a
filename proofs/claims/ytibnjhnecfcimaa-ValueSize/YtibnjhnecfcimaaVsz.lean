/- ValueSize: the law's walk. -/
import Derived.Test.YtibnjhnecfcimaaWkv
import Derived.Test.YtibnjhnecfcimaaShr
import Derived.Test.YtibnjhnecfcimaaVu
namespace Go.Proofs.Ytibnjhnecfcimaa
open Go.RowKit
set_option linter.unusedVariables false

/-- The same but for the bytes of a text. -/
def Like (a b : AttrD) : Prop := b.1 = a.1 ∧ b.2.1 = a.2.1 ∧ b.2.2.1 = a.2.2.1 ∧ b.2.2.2.1 = a.2.2.2.1 ∧ b.2.2.2.2.1 = a.2.2.2.2.1 ∧ b.2.2.2.2.2.size = a.2.2.2.2.2.size
def LikeL : List AttrD → List AttrD → Prop
  | [], [] => True
  | a :: s, b :: t => Like a b ∧ LikeL s t
  | _, _ => False
theorem LikeL.snoc {a b : AttrD} (h : Like a b) : ∀ {xs ys : List AttrD}, LikeL xs ys → LikeL (xs ++ [a]) (ys ++ [b])
  | [], [], _ => ⟨h, trivial⟩
  | _ :: _, _ :: _, k => ⟨k.1, LikeL.snoc h k.2⟩
  | [], _ :: _, k => k.elim
  | _ :: _, [], k => k.elim
theorem LikeL.len : ∀ {xs ys : List AttrD}, LikeL xs ys → ys.length = xs.length
  | [], [], _ => rfl
  | _ :: _, _ :: _, k => by rw [List.length_cons, List.length_cons, LikeL.len k.2]
  | [], _ :: _, k => k.elim
  | _ :: _, [], k => k.elim
theorem Like.vOk {a b : AttrD} (h : Like a b) : okV b.2.2.2 = okV a.2.2.2 := by
  obtain ⟨_, _, _, h4, h5, h6⟩ := h
  unfold Go.Proofs.Ytibnjhnecfcimaa.okV
  rw [h4, h5, h6]
theorem Like.aOk {a b : AttrD} (h : Like a b) : okA b = okA a := by
  have h3 := h.vOk
  obtain ⟨h1, h2, _⟩ := h
  unfold Go.Proofs.Ytibnjhnecfcimaa.okA
  rw [h1, h2, h3]
theorem LikeL.all : ∀ {xs ys : List AttrD}, LikeL xs ys → ys.all okA = xs.all okA
  | [], [], _ => rfl
  | _ :: _, _ :: _, k => by rw [List.all_cons, List.all_cons, k.1.aOk, LikeL.all k.2]
  | [], _ :: _, k => k.elim
  | _ :: _, [], k => k.elim
theorem LikeL.rs : ∀ {xs ys : List AttrD}, LikeL xs ys → rises (α := AttrD) Prod.fst ys = rises (α := AttrD) Prod.fst xs
  | [], [], _ => rfl
  | [_], [_], _ => rfl
  | a :: c :: s, b :: d :: t, k => by
    have ih := LikeL.rs (xs := c :: s) (ys := d :: t) k.2
    show (lts b.1 d.1 && Go.Proofs.Ytibnjhnecfcimaa.rises (α := AttrD) Prod.fst (d :: t)) = (lts a.1 c.1 && Go.Proofs.Ytibnjhnecfcimaa.rises (α := AttrD) Prod.fst (c :: s))
    rw [ih, k.1.1, k.2.1.1]
  | [_], _ :: _ :: _, k => k.2.elim
  | _ :: _ :: _, [_], k => k.2.elim
  | [], _ :: _, k => k.elim
  | _ :: _, [], k => k.elim
theorem LikeL.asOk {xs ys : List AttrD} (h : LikeL xs ys) : okAs ys = okAs xs := by
  unfold Go.Proofs.Ytibnjhnecfcimaa.okAs
  rw [h.len, h.all, h.rs]
theorem Like.wf {a b : AttrD} (h : Like a b) (hw : WfA a) : WfA b := by
  unfold WfA at hw ⊢
  rw [h.2.2.1]
  exact hw
theorem LikeL.wf : ∀ {xs ys : List AttrD}, LikeL xs ys → (∀ a ∈ xs, WfA a) → ∀ b ∈ ys, WfA b
  | [], [], _, _, b, hb => by cases hb
  | a :: s, c :: t, k, hw, b, hb => by
    rcases List.mem_cons.1 hb with rfl | hb
    · exact k.1.wf (hw a (List.mem_cons_self ..))
    · exact LikeL.wf k.2 (fun x hx => hw x (List.mem_cons_of_mem _ hx)) b hb
  | [], _ :: _, k, _, _, _ => k.elim
  | _ :: _, [], k, _, _, _ => k.elim
theorem Like.sz {a b : AttrD} (h : Like a b) (hk : okV a.2.2.2 = true) : (attrB b).length = (attrB a).length := by
  obtain ⟨h1, h2, h3, h4, h5, h6⟩ := h
  rw [attrB_len, attrB_len, h1, h2, h3]
  have e : (valB b.2.2.2).length = (valB a.2.2.2).length := by
    rw [valB_cont, valB_cont, List.length_append, List.length_append, h4]
    unfold contB
    rw [h4, h5, h6]
    split
    · simp only [List.length_append, bytesOf_length, h6]
    · rfl
  omega
theorem LikeL.szs : ∀ {xs ys : List AttrD}, LikeL xs ys → (∀ a ∈ xs, okA a = true) → (asB ys).length = (asB xs).length
  | [], [], _, _ => rfl
  | a :: s, b :: t, k, h => by
    show (attrB b ++ asB t).length = (attrB a ++ asB s).length
    rw [List.length_append, List.length_append, k.1.sz (okA_parts (h a (List.mem_cons_self ..))).2.2, LikeL.szs k.2 (fun x hx => h x (List.mem_cons_of_mem _ hx))]
  | [], _ :: _, k, _ => k.elim
  | _ :: _, [], k, _ => k.elim
theorem LikeL.bLen {xs ys : List AttrD} (h : LikeL xs ys) (ho : Go.Proofs.Ytibnjhnecfcimaa.okAs xs = true) : (listB ys).length = (listB xs).length := by
  unfold Go.Proofs.Ytibnjhnecfcimaa.listB
  rw [List.length_append, List.length_append, h.len, h.szs (okAs_all ho).2]
theorem enc_small {n : Int} (h : n < 128) : (Num.enc n).length = 1 := by rw [Num.enc1 n h]; rfl
/-- What stands behind a name. -/
theorem size_cut {xs : List AttrD} (ho : okAs xs = true) {j : Nat} (hj : j < xs.length) {s : ByteArray} {x p : Int} {v : ValD} (he : xs[j]'hj = (s, x, p, v)) :
    (listB xs).drop (1 + (asB (xs.take j)).length + 1 + s.size) = Num.enc x ++ (Num.enc p ++ (valB v ++ asB (xs.drop (j + 1)))) ∧ 1 + (asB (xs.take j)).length + 1 + s.size ≤ (listB xs).length := by
  have ha := okAs_all ho
  have h8 := ha.1
  have hs : s.size ≤ 24 := by
    have h := (okA_parts (ha.2 _ (List.getElem_mem hj))).1
    rw [he] at h
    exact h
  have e1 : xs = xs.take j ++ xs[j] :: xs.drop (j + 1) := by rw [← List.drop_eq_getElem_cons hj, List.take_append_drop]
  have e2 : asB xs = asB (xs.take j) ++ (attrB (s, x, p, v) ++ asB (xs.drop (j + 1))) := by
    conv => lhs; rw [e1]
    rw [asB_app, he]
    rfl
  have e3 : listB xs = (Num.enc (xs.length : Int) ++ asB (xs.take j) ++ Num.enc (s.size : Int) ++ bytesOf s) ++ (Num.enc x ++ (Num.enc p ++ (valB v ++ asB (xs.drop (j + 1))))) := by
    unfold listB
    rw [e2]
    unfold attrB
    simp only [List.append_assoc]
  have e4 : (Num.enc (xs.length : Int) ++ asB (xs.take j) ++ Num.enc (s.size : Int) ++ bytesOf s).length = 1 + (asB (xs.take j)).length + 1 + s.size := by
    simp only [List.length_append, bytesOf_length]
    rw [enc_small (n := (xs.length : Int)) (by omega), enc_small (n := (s.size : Int)) (by omega)]
  rw [e3, ← e4, List.drop_left]
  exact ⟨rfl, by simp only [List.length_append]; omega⟩

theorem OwA.kp3 {B rb : Nat} {w w' : World} {v : Value} {xs : List AttrD} (h : OwA B w v xs) (k : Kp (fun b => b = rb) w w') (hb : ∀ g, v.ownBlock = some g → g ≠ rb) : OwA B w' v xs :=
  ⟨h.1, h.2.kept (row := some rb) ⟨k.os, k.tape, k.output, k.size, fun i hi hn => k.block i hi (fun e => hn (by rw [e]))⟩ (by
    cases hv : v.ownBlock with
    | none => exact Or.inl rfl
    | some g => refine Or.inr fun e => ?_; injection e with e; exact hb g hv e)⟩

set_option maxRecDepth 100000 in
set_option maxHeartbeats 8000000 in
theorem size_walk (l : Value) (xs : List AttrD) (by_ : Int) (w : World) (hx : El encA 6 w l xs) (hw : ∀ x ∈ xs, WfA x) (hby : 0 ≤ by_ ∧ by_ ≤ 255) :
    Calls Try.prog 8 #[l, .int .u8 by_] w fun e w' => VEnd w (.bool true) e w' := by
  obtain ⟨lx, lc, rfl⟩ := hx.form
  obtain ⟨nx, hnx⟩ : ∃ q, xs.length = q := ⟨_, rfl⟩
  have h47 := hx.len
  rw [hnx] at hx h47 ⊢
  have HNX := hd hnx; have HX := hd hx; have HW := hd hw; have HBY := hd hby
  clear hnx hx hw hby
  go_enter Try.func8, Try.ntmps8
  go_wp2_with fail
  refine (works_true w).mono ?_
  rintro e w1 ⟨rfl, hk⟩
  have B1 := hd hk
  clear hk
  go_wp2_with fail
  cases hok : okAs xs
  · refine (attrs_bad (HX.out.keep B1.out) hok).mono ?_
    rintro e w2 ⟨rfl, hk⟩
    have B2 := hd (below_below B1.out hk)
    clear hk hok
    go_wp2_with fail
    go_ret
    exact VEnd.mk B2.out
  have HOK := hd hok
  have h8 := (okAs_all hok).1
  rw [HNX.out] at h8
  have HLB := hd (asB_take_le hok HW.out xs.length)
  have HAT := hd (attrs_ok (HX.out.keep B1.out) hok HW.out)
  clear hok
  obtain ⟨T, hT⟩ : ∃ T, listB xs = T := ⟨_, rfl⟩
  obtain ⟨nt, hnt⟩ : ∃ q, T.length = q := ⟨_, rfl⟩
  rw [hT] at HAT
  have HT := hd hT; have HNT := hd hnt
  have HTL : Hid (nt ≤ 1620 ∧ nt = 1 + (asB xs).length) := hd (by
    rw [← hnt, ← hT]
    unfold listB
    rw [List.length_append, enc_small (by rw [HNX.out]; omega)]
    have := HLB.out
    rw [List.take_of_length_le (Nat.le_refl _)] at this
    omega)
  clear hT hnt
  refine HAT.out.mono ?_
  rintro e w2 ⟨pb, cb, rfl, ho, hk⟩
  rw [HNT.out] at ho ⊢
  have B2 := hd (below_below B1.out hk)
  have T2 := hd ho
  have HTB := hd ho.1
  clear hk ho HAT B1 HLB
  go_wp2_with fail
  go_loopw [7, 8, 9, 10, 11, 12, 13, 14] (fun nn mm i _ _ _ _ _ wr => ∃ (j N0 : Nat) (ys : List AttrD), j ≤ nx ∧ i = .int .i64 (j : Int) ∧ nn = .int .i64 (N0 : Int) ∧ N0 = 1 + (asB (xs.take j)).length ∧ LikeL (xs.take j) ys ∧ OwA w2.heap.size wr mm ys ∧ Below w2.heap.size w2 wr) (fun _ _ i _ _ _ _ _ _ => nx - (intOf i).toNat)
  case atStart => exact ⟨0, 1, [], Nat.zero_le _, rfl, rfl, rfl, trivial, OwA.nil _ _, Below.refl _ _⟩
  case round =>
    obtain ⟨j, N0, ys, hj, rfl, rfl, hn0, hlk, hoa, hb⟩ := hrel
    obtain ⟨mx, mc, hmv⟩ := hoa.form
    subst hmv
    have HN0 := hd hn0; have HLK := hd hlk; have HO := hd hoa; have HB := hd hb
    clear hn0 hlk hoa hb
    have hyl : ys.length ≤ 8 := by rw [HLK.out.len, List.length_take]; omega
    have HYL := hd hyl
    clear hyl
    obtain ⟨ny, hny⟩ : ∃ q, ys.length = q := ⟨_, rfl⟩
    rw [hny] at HO HYL ⊢
    have HNY := hd hny
    clear hny
    by_cases hlt : j < nx
    · have hlz : (j : Int) < (nx : Int) := by omega
      have hxk : j < xs.length := by rw [HNX.out]; exact hlt
      have HJ := hd hj
      clear hj
      have BW := hd (below_below B2.out HB.out)
      obtain ⟨⟨s, x, p, kk, m, b⟩, he1⟩ : ∃ r : AttrD, xs[j]'(by omega) = r := ⟨_, rfl⟩
      obtain ⟨g, off, hx, hc, h47', d0, d1, d2, d3, d4, d5⟩ := HX.out.atA BW.out HNX.out hlt he1
      subst hx
      have HCUT := hd (size_cut HOK.out hxk he1)
      have HOA : Hid (okA (s, x, p, kk, m, b) = true) := hd (by rw [← he1]; exact okAs_at HOK.out hxk)
      have HWA : Hid (WfA (s, x, p, kk, m, b)) := hd (by rw [← he1]; exact HW.out _ (List.getElem_mem hxk))
      have HTK : Hid (asB (xs.take (j + 1)) = asB (xs.take j) ++ attrB (s, x, p, kk, m, b)) := hd (by rw [← he1]; exact asB_take hxk)
      have HTX : Hid (xs.take (j + 1) = xs.take j ++ [(s, x, p, kk, m, b)]) := hd (by rw [List.take_succ_eq_append_getElem hxk, he1])
      clear he1
      have D0 := hd d0; have D1 := hd d1; have D2 := hd d2; have D3 := hd d3; have D4 := hd d4; have D5 := hd d5
      have HVB := hd fun w => vbytes_ok kk m b w (okA_parts HOA.out).2.2
      rw [show Num.enc kk ++ contB (kk, m, b) = valB (kk, m, b) from rfl] at HVB
      obtain ⟨nv, hnv⟩ : ∃ q, (valB (kk, m, b)).length = q := ⟨_, rfl⟩
      have HNV := hd hnv
      clear hnv
      go_wp2_with fail
      refine (HVB.out wr).mono ?_
      rintro e w3 ⟨pv, cv, rfl, hov, hk⟩
      rw [HNV.out]
      have C3 := hd hk
      have O3 := hd (HO.out.keep hk)
      have T3 := hd ((T2.out.keep HB.out).keep hk)
      clear hk hov d0 d1 d2 d3 d4 d5 HVB HO
      go_wp2_with fail
      refine (New_bx T3.out.all).mono ?_
      rintro e w4 ⟨rb, rfl, hle, hr, hk⟩
      have C4 := hd (below_below C3.out hk)
      have O4 := hd (O3.out.keep hk)
      have R4 := hd hr
      have HLE := hd hle
      have HGE2 := hd C3.out.size
      have HOL := hd (fun q hq => (O3.out.2.lt q hq).2)
      clear hk hr hle C3 O3 T3
      generalize w3.heap.size = N3 at *
      have hl8 : s.size ≤ 24 := (okA_parts HOA.out).1
      have hnt0 : N0 + s.size + 200 ≤ 2000 := by
        have h1 := HN0.out
        have h2 := HTL.out
        have h3 := asB_take_le HOK.out HW.out j
        omega
      obtain ⟨N1, hN1⟩ : ∃ q, N0 + 1 = q := ⟨_, rfl⟩
      obtain ⟨N2, hN2⟩ : ∃ q, N1 + s.size = q := ⟨_, rfl⟩
      have A1 : IntKind.i64.wrap ((N0 : Int) + 1) = (N1 : Int) := by rw [IntKind.wrap_i64]; omega
      have A2 : IntKind.i64.wrap ((N1 : Int) + (s.size : Int)) = (N2 : Int) := by rw [IntKind.wrap_i64]; omega
      have HN1 := hd hN1
      have HN2 := hd hN2
      have HBD := hd hnt0
      have HA1 := hd A1
      have HA2 := hd A2
      clear hN1 hN2 hnt0
      have d0 := (below_cell C4.out (World.block_lt_of_cell? wr _ D0.out)).trans D0.out
      have HRW : Hid (bStep (rawR (N2 : Int) T) T 0 = (T.take N2, Num.enc x ++ (Num.enc p ++ (valB (kk, m, b) ++ asB (xs.drop (j + 1)))), 0)) := hd (by
        have hc := HCUT.out
        have hn2 : 1 + (asB (xs.take j)).length + 1 + s.size = N2 := by have := HN0.out; have := HN1.out; have := HN2.out; omega
        rw [hn2, HT.out] at hc
        unfold rawR
        rw [if_neg (by omega), if_neg (by have := hc.2; omega), Int.toNat_natCast]
        unfold bStep
        rw [if_neg (by simp), if_neg (by simp)]
        rw [hc.1])
      have hlx := okL_true (okA_parts HOA.out).2.1
      have hwp := HWA.out
      unfold WfA at hwp
      simp only at hlx hwp
      have HU1 := hd (u_enc x (Num.enc p ++ (valB (kk, m, b) ++ asB (xs.drop (j + 1)))) hlx.1 (by omega))
      have HU2 := hd (u_enc p (valB (kk, m, b) ++ asB (xs.drop (j + 1))) hwp.1 (by omega))
      obtain ⟨wa, hwa⟩ : ∃ q, (Num.enc x ++ (Num.enc p ++ (valB (kk, m, b) ++ asB (xs.drop (j + 1))))).length = q := ⟨_, rfl⟩
      obtain ⟨wb, hwb⟩ : ∃ q, (valB (kk, m, b) ++ asB (xs.drop (j + 1))).length = q := ⟨_, rfl⟩
      have HLEN : Hid ((attrB (s, x, p, kk, m, b)).length + N0 + wb = N2 + wa + nv ∧ wb ≤ wa ∧ wa ≤ 2000 ∧ nv ≤ 200) := hd (by
        have h1 := attrB_len (s, x, p, kk, m, b)
        simp only at h1
        have h2 := enc_small (n := (s.size : Int)) (by have := (okA_parts HOA.out).1; simp only at this; omega)
        rw [Num.enc_length] at h2
        have h3 := HN1.out; have h4 := HN2.out; have h6 := HNV.out
        have h7 := hwa; have h8 := hwb
        simp only [List.length_append, Num.enc_length] at h7 h8
        have h9 := (attrB_le HOA.out HWA.out).2
        have h10 := HCUT.out
        have h11 := congrArg List.length h10.1
        have h12 := HTL.out; have h13 := HNT.out; have h14 := HT.out
        rw [h14] at h11
        simp only [List.length_append, List.length_drop, Num.enc_length] at h11
        omega)
      have HWA2 := hd hwa
      have HWB2 := hd hwb
      clear hwa hwb hlx hwp
      generalize Num.enc x ++ (Num.enc p ++ (valB (kk, m, b) ++ asB (xs.drop (j + 1)))) = Q0 at *
      generalize Num.enc p ++ (valB (kk, m, b) ++ asB (xs.drop (j + 1))) = Q1 at *
      generalize valB (kk, m, b) ++ asB (xs.drop (j + 1)) = Q2 at *
      go_wp2_with fail
      refine (RRaw_any R4.out (N2 : Int)).mono ?_
      rw [HRW.out]
      rintro e w5 ⟨_, _, rfl, _, _, hr, hk⟩
      have hcb := hk.below wr.heap.size C4.out.size (fun q hq e => by have := HLE.out; have := HGE2.out; have e2 : q = rb := e; omega)
      have C5 := hd (C4.out.trans hcb)
      have O5 := hd (O4.out.kp3 hk (fun q hq => by have := HOL.out q hq; have := HLE.out; omega))
      have R5 := hd hr
      clear hcb hk hr C4 O4 R4 d0 A1 A2 HRW
      go_wp2_with fail
      refine (Left_ok R5.out).mono ?_
      rintro e w6 ⟨rfl, rfl⟩
      rw [HWA2.out]
      go_wp2_with fail
      refine (RU_is R5.out x HU1.out).mono ?_
      rintro e w7 ⟨rfl, hr, hk⟩
      have hcb := hk.below wr.heap.size C5.out.size (fun q hq e => by have := HLE.out; have := HGE2.out; have e2 : q = rb := e; omega)
      have C7 := hd (C5.out.trans hcb)
      have O7 := hd (O5.out.kp3 hk (fun q hq => by have := HOL.out q hq; have := HLE.out; omega))
      have R7 := hd hr
      clear hcb hk hr C5 O5 R5 HU1
      go_wp2_with fail
      refine (RU_is R7.out p HU2.out).mono ?_
      rintro e w8 ⟨rfl, hr, hk⟩
      have hcb := hk.below wr.heap.size C7.out.size (fun q hq e => by have := HLE.out; have := HGE2.out; have e2 : q = rb := e; omega)
      have C8 := hd (C7.out.trans hcb)
      have O8 := hd (O7.out.kp3 hk (fun q hq => by have := HOL.out q hq; have := HLE.out; omega))
      have R8 := hd hr
      clear hcb hk hr C7 O7 R7 HU2
      go_wp2_with fail
      refine (Err_any R8.out).mono ?_
      rintro e w9 ⟨rfl, rfl⟩
      obtain ⟨N3_, hN3⟩ : ∃ q, N2 + wa = q := ⟨_, rfl⟩
      obtain ⟨N4, hN4⟩ : ∃ q, N3_ - wb = q := ⟨_, rfl⟩
      obtain ⟨N5, hN5⟩ : ∃ q, N4 + nv = q := ⟨_, rfl⟩
      have HA3 : Hid (IntKind.i64.wrap ((N2 : Int) + (wa : Int)) = (N3_ : Int)) := hd (by have := HLEN.out; have := HBD.out; have := HN1.out; have := HN2.out; rw [IntKind.wrap_i64]; omega)
      have HA4 : Hid (IntKind.i64.wrap ((N3_ : Int) - (wb : Int)) = (N4 : Int)) := hd (by have := HLEN.out; have := HBD.out; have := HN1.out; have := HN2.out; rw [IntKind.wrap_i64]; omega)
      have HA5 : Hid (IntKind.i64.wrap ((N4 : Int) + (nv : Int)) = (N5 : Int)) := hd (by have := HLEN.out; have := HBD.out; have := HN1.out; have := HN2.out; rw [IntKind.wrap_i64]; omega)
      have HN5 : Hid (N5 = 1 + (asB (xs.take (j + 1))).length) := hd (by
        rw [HTK.out, List.length_append]
        have := HLEN.out; have := HN0.out
        omega)
      clear hN3 hN4 hN5 hl8
      go_wp2_with fail
      refine wp_region_each 17 (fun W W' => Below W.heap.size W W') (fun i v W => match i with | 0 => v = Value.int IntKind.i64 ((N0 : Nat) : Int) | 1 => v = Value.int IntKind.i64 ((N1 : Nat) : Int) | 2 => v = Value.slice (some ⟨g, off, none⟩) nx lc | 3 => v = Value.int IntKind.i64 (j : Int) | 4 => v = Value.pointer (some ⟨g, off + j * 6, none⟩) | 5 => v = Value.pointer (some ⟨g, off + j * 6, none⟩) | 6 => v = Value.string s | 7 => v = Value.int IntKind.i64 ((s.size : Nat) : Int) | 8 => v = Value.int IntKind.i64 ((N2 : Nat) : Int) | 9 => v = Value.int IntKind.i64 ((wa : Nat) : Int) | 10 => v = Value.int IntKind.i64 ((N3_ : Nat) : Int) | 11 => v = Value.pointer (some ⟨rb, 0, none⟩) | 12 => v = Value.int IntKind.i64 ((wb : Nat) : Int) | 13 => v = Value.int IntKind.i64 ((N4 : Nat) : Int) | 14 => v = Value.slice pv nv cv | 15 => v = Value.int IntKind.i64 ((nv : Nat) : Int) | 16 => v = Value.int IntKind.i64 ((N5 : Nat) : Int) | _ => True) (fun vs W => Below w9.heap.size w9 W) (by kernel_rfl) (by kernel_rfl) (fun j v W W' hE h => by
          match j with
          | 0 => exact h
          | 1 => exact h
          | 2 => exact h
          | 3 => exact h
          | 4 => exact h
          | 5 => exact h
          | 6 => exact h
          | 7 => exact h
          | 8 => exact h
          | 9 => exact h
          | 10 => exact h
          | 11 => exact h
          | 12 => exact h
          | 13 => exact h
          | 14 => exact h
          | 15 => exact h
          | 16 => exact h
          | _ + 17 => trivial) (by exact (Below.refl _ _).drew) ?_ ?_
      · simp only [List.take_succ_cons, List.take_zero]
        refine Each.cons (fun vs W hl => ?_) ?_
        · apply with17 hl
          clear hl vs
          intro v0 v1 v2 v3 v4 v5 v6 v7 v8 v9 v10 v11 v12 v13 v14 v15 v16 hg hnew hd K hK
          clear hd
          clear hnew
          rw [if_pos (by kernel_rfl)]
          simp only [puts, Act.put, List.setIfInBounds_toArray, List.set_cons_zero, List.set_cons_succ] at hK ⊢
          go_simp
          exact hK _ _ (Below.refl _ _) rfl hg
        refine Each.cons (fun vs W hl => ?_) ?_
        · apply with17 hl
          clear hl vs
          intro v0 v1 v2 v3 v4 v5 v6 v7 v8 v9 v10 v11 v12 v13 v14 v15 v16 hg hnew hd K hK
          have d0 : v0 = Value.int IntKind.i64 ((N0 : Nat) : Int) := hd 0 v0 (by kernel_rfl) rfl
          subst d0
          clear hd
          clear hnew
          rw [if_pos (by kernel_rfl)]
          simp only [puts, Act.put, List.setIfInBounds_toArray, List.set_cons_zero, List.set_cons_succ] at hK ⊢
          have A := HA1.out
          go_simp
          exact hK _ _ (Below.refl _ _) (by first | rfl | simp) hg
        refine Each.cons (fun vs W hl => ?_) ?_
        · apply with17 hl
          clear hl vs
          intro v0 v1 v2 v3 v4 v5 v6 v7 v8 v9 v10 v11 v12 v13 v14 v15 v16 hg hnew hd K hK
          clear hd
          clear hnew
          rw [if_pos (by kernel_rfl)]
          simp only [puts, Act.put, List.setIfInBounds_toArray, List.set_cons_zero, List.set_cons_succ] at hK ⊢
          go_simp
          exact hK _ _ (Below.refl _ _) rfl hg
        refine Each.cons (fun vs W hl => ?_) ?_
        · apply with17 hl
          clear hl vs
          intro v0 v1 v2 v3 v4 v5 v6 v7 v8 v9 v10 v11 v12 v13 v14 v15 v16 hg hnew hd K hK
          clear hd
          clear hnew
          rw [if_pos (by kernel_rfl)]
          simp only [puts, Act.put, List.setIfInBounds_toArray, List.set_cons_zero, List.set_cons_succ] at hK ⊢
          go_simp
          exact hK _ _ (Below.refl _ _) rfl hg
        refine Each.cons (fun vs W hl => ?_) ?_
        · apply with17 hl
          clear hl vs
          intro v0 v1 v2 v3 v4 v5 v6 v7 v8 v9 v10 v11 v12 v13 v14 v15 v16 hg hnew hd K hK
          have d2 : v2 = Value.slice (some ⟨g, off, none⟩) nx lc := hd 2 v2 (by kernel_rfl) rfl
          subst d2
          have d3 : v3 = Value.int IntKind.i64 (j : Int) := hd 3 v3 (by kernel_rfl) rfl
          subst d3
          clear hd
          clear hnew
          rw [if_pos (by kernel_rfl)]
          simp only [puts, Act.put, List.setIfInBounds_toArray, List.set_cons_zero, List.set_cons_succ] at hK ⊢
          go_simp
          exact hK _ _ (Below.refl _ _) rfl hg
        refine Each.cons (fun vs W hl => ?_) ?_
        · apply with17 hl
          clear hl vs
          intro v0 v1 v2 v3 v4 v5 v6 v7 v8 v9 v10 v11 v12 v13 v14 v15 v16 hg hnew hd K hK
          have d4 : v4 = Value.pointer (some ⟨g, off + j * 6, none⟩) := hd 4 v4 (by kernel_rfl) rfl
          subst d4
          clear hd
          clear hnew
          rw [if_pos (by kernel_rfl)]
          simp only [puts, Act.put, List.setIfInBounds_toArray, List.set_cons_zero, List.set_cons_succ] at hK ⊢
          go_simp
          exact hK _ _ (Below.refl _ _) rfl hg
        refine Each.cons (fun vs W hl => ?_) ?_
        · apply with17 hl
          clear hl vs
          intro v0 v1 v2 v3 v4 v5 v6 v7 v8 v9 v10 v11 v12 v13 v14 v15 v16 hg hnew hd K hK
          have d5 : v5 = Value.pointer (some ⟨g, off + j * 6, none⟩) := hd 5 v5 (by kernel_rfl) rfl
          subst d5
          clear hd
          clear hnew
          rw [if_pos (by kernel_rfl)]
          simp only [puts, Act.put, List.setIfInBounds_toArray, List.set_cons_zero, List.set_cons_succ] at hK ⊢
          have e0 := (below_cell hg (World.block_lt_of_cell? w9 _ ((below_cell C8.out (World.block_lt_of_cell? wr _ D0.out)).trans D0.out))).trans ((below_cell C8.out (World.block_lt_of_cell? wr _ D0.out)).trans D0.out)
          go_simp
          exact hK _ _ (Below.refl _ _) rfl hg
        refine Each.cons (fun vs W hl => ?_) ?_
        · apply with17 hl
          clear hl vs
          intro v0 v1 v2 v3 v4 v5 v6 v7 v8 v9 v10 v11 v12 v13 v14 v15 v16 hg hnew hd K hK
          have d6 : v6 = Value.string s := hd 6 v6 (by kernel_rfl) rfl
          subst d6
          clear hd
          clear hnew
          rw [if_pos (by kernel_rfl)]
          simp only [puts, Act.put, List.setIfInBounds_toArray, List.set_cons_zero, List.set_cons_succ] at hK ⊢
          go_simp
          exact hK _ _ (Below.refl _ _) rfl hg
        refine Each.cons (fun vs W hl => ?_) ?_
        · apply with17 hl
          clear hl vs
          intro v0 v1 v2 v3 v4 v5 v6 v7 v8 v9 v10 v11 v12 v13 v14 v15 v16 hg hnew hd K hK
          have d1 : v1 = Value.int IntKind.i64 ((N1 : Nat) : Int) := hd 1 v1 (by kernel_rfl) rfl
          subst d1
          have d7 : v7 = Value.int IntKind.i64 ((s.size : Nat) : Int) := hd 7 v7 (by kernel_rfl) rfl
          subst d7
          clear hd
          clear hnew
          rw [if_pos (by kernel_rfl)]
          simp only [puts, Act.put, List.setIfInBounds_toArray, List.set_cons_zero, List.set_cons_succ] at hK ⊢
          have A := HA2.out
          go_simp
          exact hK _ _ (Below.refl _ _) (by first | rfl | simp) hg
        refine Each.cons (fun vs W hl => ?_) ?_
        · apply with17 hl
          clear hl vs
          intro v0 v1 v2 v3 v4 v5 v6 v7 v8 v9 v10 v11 v12 v13 v14 v15 v16 hg hnew hd K hK
          clear hd
          clear hnew
          rw [if_pos (by kernel_rfl)]
          simp only [puts, Act.put, List.setIfInBounds_toArray, List.set_cons_zero, List.set_cons_succ] at hK ⊢
          go_simp
          exact hK _ _ (Below.refl _ _) rfl hg
        refine Each.cons (fun vs W hl => ?_) ?_
        · apply with17 hl
          clear hl vs
          intro v0 v1 v2 v3 v4 v5 v6 v7 v8 v9 v10 v11 v12 v13 v14 v15 v16 hg hnew hd K hK
          have d8 : v8 = Value.int IntKind.i64 ((N2 : Nat) : Int) := hd 8 v8 (by kernel_rfl) rfl
          subst d8
          have d9 : v9 = Value.int IntKind.i64 ((wa : Nat) : Int) := hd 9 v9 (by kernel_rfl) rfl
          subst d9
          clear hd
          clear hnew
          rw [if_pos (by kernel_rfl)]
          simp only [puts, Act.put, List.setIfInBounds_toArray, List.set_cons_zero, List.set_cons_succ] at hK ⊢
          have A := HA3.out
          go_simp
          exact hK _ _ (Below.refl _ _) (by first | rfl | simp) hg
        refine Each.cons (fun vs W hl => ?_) ?_
        · apply with17 hl
          clear hl vs
          intro v0 v1 v2 v3 v4 v5 v6 v7 v8 v9 v10 v11 v12 v13 v14 v15 v16 hg hnew hd K hK
          clear hd
          clear hnew
          rw [if_pos (by kernel_rfl)]
          simp only [puts, Act.put, List.setIfInBounds_toArray, List.set_cons_zero, List.set_cons_succ] at hK ⊢
          go_simp
          exact hK _ _ (Below.refl _ _) rfl hg
        refine Each.cons (fun vs W hl => ?_) ?_
        · apply with17 hl
          clear hl vs
          intro v0 v1 v2 v3 v4 v5 v6 v7 v8 v9 v10 v11 v12 v13 v14 v15 v16 hg hnew hd K hK
          have d11 : v11 = Value.pointer (some ⟨rb, 0, none⟩) := hd 11 v11 (by kernel_rfl) rfl
          subst d11
          clear hd
          clear hnew
          rw [if_pos (by kernel_rfl)]
          simp only [puts, Act.put, List.setIfInBounds_toArray, List.set_cons_zero, List.set_cons_succ] at hK ⊢
          go_simp
          refine (Left_ok (R8.out.keep hg)).mono ?_
          rw [HWB2.out]
          rintro e w' ⟨rfl, rfl⟩
          exact hK _ _ (Below.refl _ _) rfl hg
        refine Each.cons (fun vs W hl => ?_) ?_
        · apply with17 hl
          clear hl vs
          intro v0 v1 v2 v3 v4 v5 v6 v7 v8 v9 v10 v11 v12 v13 v14 v15 v16 hg hnew hd K hK
          have d10 : v10 = Value.int IntKind.i64 ((N3_ : Nat) : Int) := hd 10 v10 (by kernel_rfl) rfl
          subst d10
          have d12 : v12 = Value.int IntKind.i64 ((wb : Nat) : Int) := hd 12 v12 (by kernel_rfl) rfl
          subst d12
          clear hd
          clear hnew
          rw [if_pos (by kernel_rfl)]
          simp only [puts, Act.put, List.setIfInBounds_toArray, List.set_cons_zero, List.set_cons_succ] at hK ⊢
          have A := HA4.out
          go_simp
          exact hK _ _ (Below.refl _ _) (by first | rfl | simp) hg
        refine Each.cons (fun vs W hl => ?_) ?_
        · apply with17 hl
          clear hl vs
          intro v0 v1 v2 v3 v4 v5 v6 v7 v8 v9 v10 v11 v12 v13 v14 v15 v16 hg hnew hd K hK
          clear hd
          clear hnew
          rw [if_pos (by kernel_rfl)]
          simp only [puts, Act.put, List.setIfInBounds_toArray, List.set_cons_zero, List.set_cons_succ] at hK ⊢
          go_simp
          exact hK _ _ (Below.refl _ _) rfl hg
        refine Each.cons (fun vs W hl => ?_) ?_
        · apply with17 hl
          clear hl vs
          intro v0 v1 v2 v3 v4 v5 v6 v7 v8 v9 v10 v11 v12 v13 v14 v15 v16 hg hnew hd K hK
          have d14 : v14 = Value.slice pv nv cv := hd 14 v14 (by kernel_rfl) rfl
          subst d14
          clear hd
          clear hnew
          rw [if_pos (by kernel_rfl)]
          simp only [puts, Act.put, List.setIfInBounds_toArray, List.set_cons_zero, List.set_cons_succ] at hK ⊢
          go_simp
          exact hK _ _ (Below.refl _ _) rfl hg
        refine Each.cons (fun vs W hl => ?_) ?_
        · apply with17 hl
          clear hl vs
          intro v0 v1 v2 v3 v4 v5 v6 v7 v8 v9 v10 v11 v12 v13 v14 v15 v16 hg hnew hd K hK
          have d13 : v13 = Value.int IntKind.i64 ((N4 : Nat) : Int) := hd 13 v13 (by kernel_rfl) rfl
          subst d13
          have d15 : v15 = Value.int IntKind.i64 ((nv : Nat) : Int) := hd 15 v15 (by kernel_rfl) rfl
          subst d15
          clear hd
          clear hnew
          rw [if_pos (by kernel_rfl)]
          simp only [puts, Act.put, List.setIfInBounds_toArray, List.set_cons_zero, List.set_cons_succ] at hK ⊢
          have A := HA5.out
          go_simp
          exact hK _ _ (Below.refl _ _) (by first | rfl | simp) hg
        exact Each.nil
      · intro vs W hl
        apply with17 hl
        clear hl vs
        intro v0 v1 v2 v3 v4 v5 v6 v7 v8 v9 v10 v11 v12 v13 v14 v15 v16 hg hall
        have d0 : v0 = Value.int IntKind.i64 ((N0 : Nat) : Int) := hall 0 v0 rfl
        subst d0
        have d1 : v1 = Value.int IntKind.i64 ((N1 : Nat) : Int) := hall 1 v1 rfl
        subst d1
        have d2 : v2 = Value.slice (some ⟨g, off, none⟩) nx lc := hall 2 v2 rfl
        subst d2
        have d3 : v3 = Value.int IntKind.i64 (j : Int) := hall 3 v3 rfl
        subst d3
        have d4 : v4 = Value.pointer (some ⟨g, off + j * 6, none⟩) := hall 4 v4 rfl
        subst d4
        have d5 : v5 = Value.pointer (some ⟨g, off + j * 6, none⟩) := hall 5 v5 rfl
        subst d5
        have d6 : v6 = Value.string s := hall 6 v6 rfl
        subst d6
        have d7 : v7 = Value.int IntKind.i64 ((s.size : Nat) : Int) := hall 7 v7 rfl
        subst d7
        have d8 : v8 = Value.int IntKind.i64 ((N2 : Nat) : Int) := hall 8 v8 rfl
        subst d8
        have d9 : v9 = Value.int IntKind.i64 ((wa : Nat) : Int) := hall 9 v9 rfl
        subst d9
        have d10 : v10 = Value.int IntKind.i64 ((N3_ : Nat) : Int) := hall 10 v10 rfl
        subst d10
        have d11 : v11 = Value.pointer (some ⟨rb, 0, none⟩) := hall 11 v11 rfl
        subst d11
        have d12 : v12 = Value.int IntKind.i64 ((wb : Nat) : Int) := hall 12 v12 rfl
        subst d12
        have d13 : v13 = Value.int IntKind.i64 ((N4 : Nat) : Int) := hall 13 v13 rfl
        subst d13
        have d14 : v14 = Value.slice pv nv cv := hall 14 v14 rfl
        subst d14
        have d15 : v15 = Value.int IntKind.i64 ((nv : Nat) : Int) := hall 15 v15 rfl
        subst d15
        have d16 : v16 = Value.int IntKind.i64 ((N5 : Nat) : Int) := hall 16 v16 rfl
        subst d16
        clear hall
        simp only [puts, Act.put, List.setIfInBounds_toArray, List.set_cons_zero, List.set_cons_succ, List.take_succ_cons, List.take_zero, List.drop_succ_cons, List.drop_zero]
        have C9 := hd (below_below C8.out hg)
        have O9 := hd (O8.out.keep hg)
        clear hg
        generalize W = w10 at *
        have d0 := (below_cell C9.out (World.block_lt_of_cell? wr _ D0.out)).trans D0.out
        have d1 := (below_cell C9.out (World.block_lt_of_cell? wr _ D1.out)).trans D1.out
        have d2 := (below_cell C9.out (World.block_lt_of_cell? wr _ D2.out)).trans D2.out
        have d3 := (below_cell C9.out (World.block_lt_of_cell? wr _ D3.out)).trans D3.out
        have d4 := (below_cell C9.out (World.block_lt_of_cell? wr _ D4.out)).trans D4.out
        have d5 := (below_cell C9.out (World.block_lt_of_cell? wr _ D5.out)).trans D5.out
        by_cases hk2 : kk = 2
        · subst hk2
          have hlb : b.size ≤ 64 := by
            have h := (okA_parts HOA.out).2.2
            rw [okV_2] at h
            simp only [Bool.and_eq_true, decide_eq_true_eq] at h
            exact h.2
          have hz1 : (w10.alloc (Obj.cells #[Value.string s, Value.int IntKind.i64 x, Value.int IntKind.u32 p, Value.int IntKind.i64 2, Value.int IntKind.i64 m, Value.string b] 35)).heap.size = w10.heap.size + 1 := by simp
          have hbt := built (w10.alloc (Obj.cells #[Value.string s, Value.int IntKind.i64 x, Value.int IntKind.u32 p, Value.int IntKind.i64 2, Value.int IntKind.i64 m, Value.string b] 35)) [by_] #[Value.int IntKind.u8 by_] rfl 1 rfl (fun y hy => by have := HBY.out; simp at hy; omega) (by simp)
          rw [hz1] at hbt
          have hcv := conv_bs hbt
          have hs1 : (strOfNums [by_]).size = 1 := by rw [← bytesOf_length, bytes_str [by_] (fun y hy => by have := HBY.out; simp at hy; omega)]; rfl
          generalize strOfNums [by_] = S1 at *
          have HS1 := hd hs1
          clear hs1 hbt
          go_wp2_with fail
          refine (repeat_any S1 b.size _ (by rw [HS1.out]; omega) (by omega)).mono ?_
          rintro e w11 ⟨S, rfl, hS, hk⟩
          have hSz : S.size = b.size := by rw [hS, HS1.out, Nat.one_mul]
          have V11 := hd (((Bk.new w10 35 #[Value.string s, Value.int IntKind.i64 x, Value.int IntKind.u32 p, Value.int IntKind.i64 2, Value.int IntKind.i64 m, Value.string b]).alloc (Obj.cells #[Value.int IntKind.u8 by_] 5)).keep hk)
          have CB := below2 w10 (Obj.cells #[Value.string s, Value.int IntKind.i64 x, Value.int IntKind.u32 p, Value.int IntKind.i64 2, Value.int IntKind.i64 m, Value.string b] 35) (Obj.cells #[Value.int IntKind.u8 by_] 5)
          have O11 := (O9.out.keep CB).keep hk
          have C11 := hd (below_below (below_below C9.out CB) hk)
          have O12 := hd (O11.kp3 (kp_one w11 w10.heap.size 5 (.string S)) (fun q hq => by have := (O9.out.2.lt q hq).2; omega))
          have C12 := hd (below_setCell C11.out ⟨w10.heap.size, 5, none⟩ (.string S) C9.out.size)
          have HSS := hd hSz
          clear hS hk hSz CB O11 hcv hz1 hlb d0 d1 d2 d3 d4 d5
          have c0 := V11.out.cell 0
          have c1 := V11.out.cell 1
          have c2 := V11.out.cell 2
          have c3 := V11.out.cell 3
          have c4 := V11.out.cell 4
          have c5 := V11.out.cell 5
          simp at c0 c1 c2 c3 c4 c5
          have f5 := V11.out.fz 5
          have hz2 : (w11.setCell ⟨w10.heap.size, 5, none⟩ (.string S)).heap.size = w11.heap.size := by simp
          have BA := hd (HB.out.trans (C12.out.mono HB.out.size))
          obtain ⟨v7, w7, hr7, o7, k7⟩ := (O12.out.keep (below1 (w11.setCell ⟨w10.heap.size, 5, none⟩ (.string S)) (Obj.cells #[Value.string s, Value.int IntKind.i64 x, Value.int IntKind.u32 p, Value.int IntKind.i64 2, Value.int IntKind.i64 m, Value.string S] 35))).app (a := (s, x, p, 2, m, S)) (Bk.new (w11.setCell ⟨w10.heap.size, 5, none⟩ (.string S)) 35 #[Value.string s, Value.int IntKind.i64 x, Value.int IntKind.u32 p, Value.int IntKind.i64 2, Value.int IntKind.i64 m, Value.string S]) (Nat.le_trans BA.out.size (below1 (w11.setCell ⟨w10.heap.size, 5, none⟩ (.string S)) (Obj.cells #[Value.string s, Value.int IntKind.i64 x, Value.int IntKind.u32 p, Value.int IntKind.i64 2, Value.int IntKind.i64 m, Value.string S] 35)).size) (by rw [HNY.out]; have := HYL.out; omega) 24
          obtain ⟨x7, cap7, hv7⟩ := o7.form
          subst hv7
          rw [List.length_append, HNY.out, hz2] at hr7
          have HR7 := hd hr7
          have O7 := hd o7
          rw [List.length_append, HNY.out] at O7
          have BR := hd ((BA.out.trans ((below1 (w11.setCell ⟨w10.heap.size, 5, none⟩ (.string S)) (Obj.cells #[Value.string s, Value.int IntKind.i64 x, Value.int IntKind.u32 p, Value.int IntKind.i64 2, Value.int IntKind.i64 m, Value.string S] 35)).mono BA.out.size)).trans k7)
          clear hr7 o7 k7
          go_wp2_with (at_builtin; refine wpList_append_run _ rfl _ _ _ _ rfl _ _ rfl rfl _ w7 HR7.out ?_)
          go_roundw
          case rel => exact ⟨j + 1, N5, ys ++ [(s, x, p, 2, m, S)], by have := HJ.out; omega, by go_num, rfl, HN5.out, by rw [HTX.out]; exact LikeL.snoc (a := (s, x, p, 2, m, b)) (b := (s, x, p, 2, m, S)) ⟨rfl, rfl, rfl, rfl, rfl, HSS.out⟩ HLK.out, O7.out, BR.out⟩
          case measure => simp [intOf]; omega
        · have hz1 : (w10.alloc (Obj.cells #[Value.string s, Value.int IntKind.i64 x, Value.int IntKind.u32 p, Value.int IntKind.i64 kk, Value.int IntKind.i64 m, Value.string b] 35)).heap.size = w10.heap.size + 1 := by simp
          have OA := O9.out.keep (below1 w10 (Obj.cells #[Value.string s, Value.int IntKind.i64 x, Value.int IntKind.u32 p, Value.int IntKind.i64 kk, Value.int IntKind.i64 m, Value.string b] 35))
          have CA := below_below C9.out (below1 w10 (Obj.cells #[Value.string s, Value.int IntKind.i64 x, Value.int IntKind.u32 p, Value.int IntKind.i64 kk, Value.int IntKind.i64 m, Value.string b] 35))
          have BA := hd (HB.out.trans (CA.mono HB.out.size))
          obtain ⟨v7, w7, hr7, o7, k7⟩ := (OA.keep (below1 (w10.alloc (Obj.cells #[Value.string s, Value.int IntKind.i64 x, Value.int IntKind.u32 p, Value.int IntKind.i64 kk, Value.int IntKind.i64 m, Value.string b] 35)) (Obj.cells #[Value.string s, Value.int IntKind.i64 x, Value.int IntKind.u32 p, Value.int IntKind.i64 kk, Value.int IntKind.i64 m, Value.string b] 35))).app (a := (s, x, p, kk, m, b)) (Bk.new (w10.alloc (Obj.cells #[Value.string s, Value.int IntKind.i64 x, Value.int IntKind.u32 p, Value.int IntKind.i64 kk, Value.int IntKind.i64 m, Value.string b] 35)) 35 #[Value.string s, Value.int IntKind.i64 x, Value.int IntKind.u32 p, Value.int IntKind.i64 kk, Value.int IntKind.i64 m, Value.string b]) (Nat.le_trans BA.out.size (below1 (w10.alloc (Obj.cells #[Value.string s, Value.int IntKind.i64 x, Value.int IntKind.u32 p, Value.int IntKind.i64 kk, Value.int IntKind.i64 m, Value.string b] 35)) (Obj.cells #[Value.string s, Value.int IntKind.i64 x, Value.int IntKind.u32 p, Value.int IntKind.i64 kk, Value.int IntKind.i64 m, Value.string b] 35)).size) (by rw [HNY.out]; have := HYL.out; omega) 24
          obtain ⟨x7, cap7, hv7⟩ := o7.form
          subst hv7
          rw [List.length_append, HNY.out, hz1] at hr7
          have HR7 := hd hr7
          have O7 := hd o7
          rw [List.length_append, HNY.out] at O7
          have BR := hd ((BA.out.trans ((below1 (w10.alloc (Obj.cells #[Value.string s, Value.int IntKind.i64 x, Value.int IntKind.u32 p, Value.int IntKind.i64 kk, Value.int IntKind.i64 m, Value.string b] 35)) (Obj.cells #[Value.string s, Value.int IntKind.i64 x, Value.int IntKind.u32 p, Value.int IntKind.i64 kk, Value.int IntKind.i64 m, Value.string b] 35)).mono BA.out.size)).trans k7)
          clear hr7 o7 k7
          go_wp2_with (at_builtin; refine wpList_append_run _ rfl _ _ _ _ rfl _ _ rfl rfl _ w7 HR7.out ?_)
          go_roundw
          case rel => exact ⟨j + 1, N5, ys ++ [(s, x, p, kk, m, b)], by have := HJ.out; omega, by go_num, rfl, HN5.out, by rw [HTX.out]; exact LikeL.snoc (a := (s, x, p, kk, m, b)) (b := (s, x, p, kk, m, b)) ⟨rfl, rfl, rfl, rfl, rfl, rfl⟩ HLK.out, O7.out, BR.out⟩
          case measure => simp [intOf]; omega
    · have hnl : ¬ (j : Int) < (nx : Int) := by omega
      have hjn : j = nx := by omega
      subst hjn
      have htx : xs.take j = xs := List.take_of_length_le (by rw [HNX.out]; exact Nat.le_refl _)
      have hlk := HLK.out
      have hn0 := HN0.out
      rw [htx] at hlk hn0
      have HN0b := hd hn0
      have B3 := hd (below_below B2.out HB.out)
      have HAY := hd (attrs_ok HO.out.el (by rw [hlk.asOk]; exact HOK.out) (hlk.wf HW.out))
      have hyz := hlk.bLen HOK.out
      obtain ⟨q, hq⟩ : ∃ q, (listB ys).length = q := ⟨_, rfl⟩
      have HQ := hd hq
      have hqn : q = N0 ∧ nt = N0 := by
        have h1 := HT.out; have h2 := HNT.out; have h3 := HTL.out
        rw [h1] at hyz
        omega
      obtain ⟨hqn1, hqn2⟩ := hqn
      clear hyz hq htx hlk hn0 hj
      subst hqn1 hqn2
      go_wp2_with fail
      refine HAY.out.mono ?_
      rintro e w3 ⟨_, _, rfl, _, hk⟩
      rw [HQ.out]
      have B4 := hd (below_below B3.out hk)
      clear hk
      go_wp2_with fail
      go_ret
      exact VEnd.mk B4.out

end Go.Proofs.Ytibnjhnecfcimaa
