/- VeilBack: the law's walk. -/
import Derived.Test.YtcgimbomandjfaaBp
import Derived.Test.YtcgimbomandjfaaLs
import Derived.Test.YtcgimbomandjfaaLt
namespace Go.Proofs.Ytcgimbomandjfaa
open Go.RowKit
set_option linter.unusedVariables false

theorem Bx.capB {N : Nat} {w : World} {a : Option Addr} {n c : Nat} {l : List Int} (h : Bx N w (.slice a n c) l) (hn : l.length = n) : n ≤ c := by
  rcases h with ⟨h1, h2, h3⟩ | ⟨h0, x, cap, hv⟩
  · rcases h3 with ⟨hv, h0⟩ | ⟨b, off, cap, hv, hc, hA, hlt, hcell⟩
    · injection hv with e1 e2 e3
      omega
    · injection hv with e1 e2 e3
      omega
  · subst h0
    simp at hn
    omega
theorem Bx.small {N : Nat} {w : World} {v : Value} {l : List Int} (h : Bx N w v l) : l.length ≤ 140737488355328 := by
  rcases h with ⟨h1, h2, h3⟩ | ⟨h0, x, cap, hv⟩
  · exact h2
  · subst h0
    simp

set_option maxRecDepth 100000 in
set_option maxHeartbeats 8000000 in
theorem back_walk (x p : Int) (bv : Value) (l : List Int) (s : ByteArray) (w : World) (hp : 0 ≤ p ∧ p ≤ 4294967295) (hb : Bx w.heap.size w bv l) (hl : Byt l) (hs : s.size ≤ 140737488355328) :
    Calls Try.prog 8 #[.agg #[.int .i64 x, .int .u32 p], bv, .string s] w fun e w' => VEnd w (.bool true) e w' := by
  obtain ⟨lb, hlb⟩ : ∃ lb, lbytes x p = lb := ⟨_, rfl⟩
  obtain ⟨be, hbe⟩ : ∃ be, lerr x = be := ⟨_, rfl⟩
  have BX := hd fun w => bytes_any x p w hp
  have CK := hd fun w => check_any x p w
  have CK : Hid (∀ w, Calls Try.prog 9 #[.agg #[.int .i64 x, .int .u32 p]] w fun e w' => VEnd w (.int .i64 be) e w') := hd (by rw [← hbe]; exact fun w => check_any x p w)
  rw [hlb, hbe] at BX
  have HLB := hd hlb
  have HBE := hd hbe
  have HP := hd hp
  have HL := hd hl
  have HS := hd hs
  have HB := hd hb
  clear hp hl hs hb hlb hbe
  obtain ⟨ab, nb, cb, rfl, hnb⟩ : ∃ a n c, bv = .slice a n c ∧ l.length = n := by
    obtain ⟨a, c, h⟩ := HB.out.len
    exact ⟨_, _, _, h, rfl⟩
  have HNB := hd hnb
  clear hnb
  go_enter Try.func8, Try.ntmps8
  go_wp2_with fail
  have A1 := Lb.new w x p
  have B1 := below1 w (Obj.cells #[Value.int IntKind.i64 x, Value.int IntKind.u32 p] 24)
  generalize hN : w.heap.size = N at *
  have HN := hd hN
  clear hN
  rw [← HN.out] at B1
  generalize w.alloc (Obj.cells #[Value.int IntKind.i64 x, Value.int IntKind.u32 p] 24) = w1 at *
  refine (works_true w1).mono ?_
  rintro e w2 ⟨rfl, hk⟩
  have A2 := A1.keep hk
  have B2 := below_below B1 hk
  clear A1 B1 hk
  have c0 := A2.c0
  have c1 := A2.c1
  go_wp2_with fail
  refine (BX.out w2).mono ?_
  rintro e w3 ⟨ax, nx, cx, rfl, hnx, ho, hk⟩
  have A3 := hd (A2.keep hk)
  have B3 := hd (below_below B2 hk)
  have O3 := hd ho
  have HNX := hd hnx
  have HBN : Hid (N < w2.heap.size) := hd A2.lt
  have HBW : Hid (w.heap.size ≤ w2.heap.size) := hd B2.size
  have HB3 : Hid (w2.heap.size ≤ w3.heap.size) := hd hk.size
  generalize w2.heap.size = BB at *
  clear A2 B2 hk ho BX c0 c1 hnx
  have c0 := A3.out.c0
  have c1 := A3.out.c1
  go_wp2_with fail
  refine (CK.out w3).mono ?_
  rintro e w4 ⟨rfl, hk⟩
  have A4 := hd (A3.out.keep hk)
  have B4 := hd (below_below B3.out hk)
  have O4 := hd (O3.out.keep hk)
  have HB4 : Hid (w3.heap.size ≤ w4.heap.size) := hd hk.size
  clear A3 B3 O3 hk CK c0 c1
  go_upto_if 31 with fail
  go_cut [] (fun wx => Below w.heap.size w wx)
  case first =>
    cases ho : okL x
    · have e9 : be = 9 := by rw [← HBE.out]; unfold lerr; rw [ho]; rfl
      subst e9
      clear ho HBE
      go_wp2_with fail
      go_meet
      exact B4.out
    · have e0 : be = 0 := by rw [← HBE.out]; unfold lerr; rw [ho]; rfl
      have el : lb = Num.enc x ++ Num.enc p := by rw [← HLB.out]; unfold lbytes; rw [ho]; rfl
      subst e0
      have HX := hd (okL_true ho)
      obtain ⟨t, ht⟩ : ∃ t, textOf x.toNat p.toNat = t := ⟨_, rfl⟩
      have TX : Hid (∀ w, Calls Try.prog 30 #[.agg #[.int .i64 x, .int .u32 p]] w fun e w' => VEnd w (.string t) e w') := hd (by
        intro w
        have h := text_any x p w HP.out
        unfold ltext at h
        rw [ho, if_pos rfl, ht] at h
        exact h)
      have RD : Hid (∀ w, Calls Try.prog 24 #[.string t] w fun e w' => VEnd w (.tuple #[.agg #[.int .i64 x, .int .u32 p], .int .i64 0]) e w') := hd (by
        intro w
        have h1 := HX.out
        have h2 := HP.out
        have h := vread_ok x.toNat p.toNat w (by omega) (by omega)
        rw [ht, show ((x.toNat : Nat) : Int) = x by omega, show ((p.toNat : Nat) : Int) = p by omega] at h
        exact h)
      have UP := hd (u_enc x (Num.enc p ++ [9]) HX.out.1 (by have := HX.out; omega))
      have UQ := hd (u_enc p [9] HP.out.1 (by have := HP.out; omega))
      have HTK : Hid (tkLab x p [9] 0 = (x, p, [9], 0)) := hd (by
        have h1 := HX.out
        have h2 := HP.out
        unfold tkLab
        rw [if_neg (by simp), if_neg (by omega)])
      have HLEN : Hid (lb.length ≤ 16) := hd (by
        rw [el, List.length_append, Num.enc_length, Num.enc_length]
        have h1 := Num.sz_bd x HX.out.1
        have h2 := Num.sz_bd p HP.out.1
        omega)
      have HB9 : Hid (Byt (lb ++ [9])) := hd (O4.out.1.append (fun y hy => by simp at hy; omega))
      rw [show Num.enc x ++ (Num.enc p ++ [9]) = lb ++ [9] by rw [el, List.append_assoc]] at UP
      clear ho ht HBE HLB el
      obtain ⟨v5, w5, hrun, ho5, hk5⟩ := append_ow (ty := 34) (O4.out.keep (below1 w4 (.cells #[.int .u8 9] 5))) (one9 w4 9 (by omega) (by omega)) (fun y hy => by simp at hy; omega) (Nat.le_trans (Nat.le_trans HB3.out HB4.out) (below1 w4 _).size) (by have := HLEN.out; simp; omega)
      have B5 := (below_below B4.out (below1 w4 (.cells #[.int .u8 9] 5))).trans (hk5.mono HBW.out)
      have A5 : Lb w5 N x p := (A4.out.keep (below1 w4 (.cells #[.int .u8 9] 5))).keepB hk5 HBN.out
      obtain ⟨a5, n5, c5, rfl⟩ : ∃ a n c, v5 = .slice a n c := by
        obtain ⟨a, c, h⟩ := ho5.len
        exact ⟨_, _, _, h⟩
      have HR := hd hrun
      have NW := hd (New_bx ho5.all)
      have HS5 : Hid (BB ≤ w5.heap.size) := hd (by have h := hk5.size; have h1 := HB3.out; have h2 := HB4.out; have h3 := (below1 w4 (.cells #[.int .u8 9] 5)).size; omega)
      clear hrun ho5 hk5 O4 A4 B4
      go_wp2_with (at_builtin; refine wpList_append_run _ rfl _ _ _ _ rfl _ _ rfl rfl _ w5 HR.out ?_)
      refine NW.out.mono ?_
      rintro e w6 ⟨rb, rfl, hrb, hrd, hk⟩
      have A6 := A5.keep hk
      have B6 := below_below B5 hk
      have HRB := hd hrb
      generalize w5.heap.size = RB at *
      clear A5 B5 hk hrb NW HR
      go_wp2_with fail
      refine (Take_is hrd HRB.out HB9.out UP.out UQ.out).mono ?_
      rw [HTK.out]
      rintro e w7 ⟨rfl, hrd7, hk⟩
      have A7 := hk.old A6 (by have h1 := HBN.out; have h2 := HRB.out; have h3 := HS5.out; omega)
      have B7 := below_kp B6 (by have h1 := HBW.out; have h2 := HRB.out; have h3 := HS5.out; omega) hk
      clear A6 B6 hrd hk UP UQ HTK
      simp only at hrd7 ⊢
      have A8 := A7.alloc (Obj.cells #[Value.int IntKind.i64 x, Value.int IntKind.u32 p] 24)
      have M8 := Lb.new w7 x p
      have R8 := hrd7.keep (below1 w7 (Obj.cells #[Value.int IntKind.i64 x, Value.int IntKind.u32 p] 24))
      have B8 := below_below B7 (below1 w7 (Obj.cells #[Value.int IntKind.i64 x, Value.int IntKind.u32 p] 24))
      have c0 := A8.c0
      have c1 := A8.c1
      have e24 := eq24r
      clear A7 B7 hrd7
      go_wp2_with fail
      generalize w7.heap.size = gm at *
      generalize w7.alloc (Obj.cells #[Value.int IntKind.i64 x, Value.int IntKind.u32 p] 24) = w8 at *
      refine (TX.out w8).mono ?_
      rintro e w9 ⟨rfl, hk⟩
      have A9 := A8.keep hk
      have M9 := M8.keep hk
      have R9 := R8.keep hk
      have B9 := below_below B8 hk
      clear A8 M8 R8 B8 hk c0 c1
      go_wp2_with fail
      refine (RD.out w9).mono ?_
      rintro e w10 ⟨rfl, hk⟩
      have A10 := A9.keep hk
      have M10 := M9.keep hk
      have R10 := R9.keep hk
      have B10 := below_below B9 hk
      clear A9 M9 R9 B9 hk
      have A11 := hd (A10.alloc (Obj.cells #[Value.int IntKind.i64 x, Value.int IntKind.u32 p] 24))
      have M11 := hd (M10.alloc (Obj.cells #[Value.int IntKind.i64 x, Value.int IntKind.u32 p] 24))
      have N11 := hd (Lb.new w10 x p)
      have R11 := hd (R10.keep (below1 w10 (Obj.cells #[Value.int IntKind.i64 x, Value.int IntKind.u32 p] 24)))
      have B11 := hd (below_below B10 (below1 w10 (Obj.cells #[Value.int IntKind.i64 x, Value.int IntKind.u32 p] 24)))
      clear A10 M10 R10 B10
      have c0 := A11.out.c0
      have c1 := A11.out.c1
      have c2 := M11.out.c0
      have c3 := M11.out.c1
      have LF := Left_any R11.out
      rw [show leftOf [9] 0 = 1 by rfl] at LF
      have HLF := hd LF
      clear LF
      go_wp2_with fail
      have c4 := N11.out.c0
      have c5 := N11.out.c1
      generalize w10.heap.size = gn at *
      generalize w10.alloc (Obj.cells #[Value.int IntKind.i64 x, Value.int IntKind.u32 p] 24) = w11 at *
      refine HLF.out.mono ?_
      rintro e w12 ⟨rfl, hk⟩
      have A12 := hd (A11.out.keep hk)
      have N12 := hd (N11.out.keep hk)
      have B12 := hd (below_below B11.out hk)
      clear hk A11 M11 N11 R11 B11 c0 c1 c2 c3 c4 c5 HLF
      have c0 := A12.out.c0
      have c1 := A12.out.c1
      have c4 := N12.out.c0
      have c5 := N12.out.c1
      go_wp2_with fail
      go_meet
      exact B12.out
  case rest =>
    have B := hcut
    clear hcut A4 B4 O4 HBN HBW HB3 HB4 HNX HBE HLB HP
    obtain ⟨n1, l1, e1, n2, l2, e2, m1, m2, u1, u2, x1, x2, hm⟩ := ux 9007199254740991 l
    obtain ⟨r, hr⟩ : ∃ r, tkLab n1 n2 l2 e2 = r := ⟨_, rfl⟩
    obtain ⟨X, P, lr, er⟩ := r
    have TK : Hid (∀ {RB : Nat} {w : World} {rb : Nat}, Rd RB w rb l 0 → RB ≤ rb → Calls Try.prog 22 #[.pointer (some ⟨rb, 0, none⟩)] w fun e w' => TakeEnd RB w rb (X, P, lr, er) e w') := hd fun h1 h2 => by rw [← hr]; exact Take_is h1 h2 HL.out u1 u2
    have AG : Hid (er = 0 → okL X = true ∧ (0 ≤ P ∧ P ≤ 4294967295) ∧ ∃ k, k ≤ l.length ∧ Num.enc X ++ Num.enc P = l.take k ∧ lr = l.drop k) := hd fun h => tk_again HL.out u1 u2 (by rw [hr, h])
    clear u1 u2 x1 x2 hm hr m1 m2
    go_wp2_with fail
    refine (New_bx (HB.out.keep B)).mono ?_
    rintro e w2' ⟨rb, rfl, hrb, hrd, hk⟩
    have B2 := below_below B hk
    have HRB := hd hrb
    have HWR : Hid (w.heap.size ≤ wc.heap.size) := hd B.size
    generalize wc.heap.size = RB at *
    clear B hk hrb
    go_wp2_with fail
    refine (TK.out hrd HRB.out).mono ?_
    rintro e w3' ⟨rfl, hrd3, hk⟩
    have B3 := below_kp B2 (by have h1 := HRB.out; have h2 := HWR.out; omega) hk
    clear B2 hk hrd TK
    simp only at hrd3 ⊢
    have M4 := hd (Lb.new w3' X P)
    have R4 := hd (hrd3.keep (below1 w3' (Obj.cells #[Value.int IntKind.i64 X, Value.int IntKind.u32 P] 24)))
    have B4 := hd (below_below B3 (below1 w3' (Obj.cells #[Value.int IntKind.i64 X, Value.int IntKind.u32 P] 24)))
    clear B3 hrd3
    go_wp2_with fail
    generalize w3'.heap.size = gm at *
    generalize w3'.alloc (Obj.cells #[Value.int IntKind.i64 X, Value.int IntKind.u32 P] 24) = w4' at *
    refine (Err_v R4.out).mono ?_
    rintro e w5' ⟨rfl, hk⟩
    have M5 := hd (M4.out.keep hk)
    have R5 := hd (R4.out.keep hk)
    have B5 := hd (below_below B4.out hk)
    clear M4 R4 B4 hk
    go_upto_if 67 with fail
    go_cut [] (fun wx => Below w.heap.size w wx)
    case first =>
      by_cases he : er = 0
      · subst he
        obtain ⟨hok, hP, k, hk, henc, hlr⟩ := AG.out rfl
        have BY := hd fun w => bytes_ok X P w hok hP
        rw [henc] at BY
        have htk : (l.take k).length = k := by rw [List.length_take]; omega
        have hkn : k ≤ nb := by rw [← HNB.out]; exact hk
        obtain ⟨lv, hlv⟩ : ∃ lv, leftOf lr 0 = lv := ⟨_, rfl⟩
        have hlv2 : (k : Int) + lv = (nb : Int) := by
          rw [← hlv, ← HNB.out, hlr]
          unfold leftOf
          rw [if_pos rfl, List.length_drop]
          omega
        have hlv0 : 0 ≤ lv := by omega
        have hnb47 : (nb : Int) ≤ 140737488355328 := by rw [← HNB.out]; have := HB.out.small; omega
        have hcb : (nb : Int) ≤ (cb : Int) := by have := HB.out.capB HNB.out; omega
        have hsum : IntKind.i64.wrap ((k : Int) + lv) = (nb : Int) := by rw [hlv2]; exact wraps_i64' _ (by omega) (by omega)
        have hkc : (k : Int) ≤ (cb : Int) := by omega
        have HLV := hd hlv
        have HTK := hd htk
        have HKN := hd hkn
        clear hok hP henc hlr hlv htk hk AG hlv2
        have c0 := M5.out.c0
        have c1 := M5.out.c1
        go_wp2_with fail
        refine (BY.out w5').mono ?_
        rintro e w6' ⟨ay, cy, rfl, ho, hk⟩
        rw [HTK.out] at ho ⊢
        have R6 := hd (R5.out.keep hk)
        have B6 := hd (below_below B5.out hk)
        have O6 := hd ho
        clear M5 R5 B5 hk ho c0 c1 BY
        go_wp2_with fail
        refine (Left_any R6.out).mono ?_
        rw [HLV.out]
        rintro e w7' ⟨rfl, hk⟩
        have B7 := hd (below_below B6.out hk)
        have O7 := hd (O6.out.keep hk)
        clear R6 B6 hk O6
        go_wp2_with fail
        refine (eq_vx O7.out.bs ((HB.out.front HNB.out HKN.out).keep B7.out)).mono ?_
        rintro e w8' ⟨rfl, hk⟩
        have B8 := hd (below_below B7.out hk)
        clear B7 O7 hk
        go_wp2_with fail
        go_meet
        exact B8.out
      · have he' : (er == 0) = false := by rw [beq_eq_false_iff_ne]; exact he
        clear AG
        go_wp2_with fail
        go_meet
        exact B5.out
    case rest =>
      have B := hd hcut
      clear hcut M5 R5 B5 AG
      obtain ⟨X2, P2, ge, hrd, hc⟩ := vread_any s HS.out
      rcases hrd with ⟨Y, Z, hY, hZ, hst, rfl, rfl, rfl⟩ | ⟨hno, rfl, rfl, rfl⟩
      · have TX : Hid (∀ w, Calls Try.prog 30 #[.agg #[.int .i64 (Y : Int), .int .u32 (Z : Int)]] w fun e w' => VEnd w (.string s) e w') := hd (by rw [hst]; exact fun w => text_ok Y Z w hY hZ)
        have CK : Hid (∀ w, Calls Try.prog 9 #[.agg #[.int .i64 (Y : Int), .int .u32 (Z : Int)]] w fun e w' => VEnd w (.int .i64 0) e w') := hd (by
          intro w
          have h := check_any (Y : Int) (Z : Int) w
          rw [show okL (Y : Int) = true by unfold okL; simp; omega, if_pos rfl] at h
          exact h)
        clear hst hY hZ
        generalize (Y : Int) = y at *
        generalize (Z : Int) = z' at *
        have RD := hd hc
        clear hc
        go_wp2_with fail
        refine (RD.out _).mono ?_
        rintro e w2' ⟨rfl, hk⟩
        have B2 := hd (below_below B.out hk)
        clear hk B
        unfold le
        go_wp2_with fail
        have M3 := Lb.new w2' y z'
        have B3 := hd (below_below B2.out (below1 w2' (Obj.cells #[Value.int IntKind.i64 y, Value.int IntKind.u32 z'] 24)))
        clear B2
        generalize w2'.heap.size = gm at *
        generalize w2'.alloc (Obj.cells #[Value.int IntKind.i64 y, Value.int IntKind.u32 z'] 24) = w3' at *
        have c0 := Ltr.c0 M3
        have c1 := Ltr.c1 M3
        have hany := Ltr.any w3'
        have e24 := eq24r
        refine wp_region_later (by kernel_rfl) (by kernel_rfl) ?_
        repeat (go_big_quiet_step (first | (go_at_call 33; exact later_of (at_any _ _ _)) | (go_at_call 30; with_reducible exact later_of (TX.out _)) | (go_at_call 9; with_reducible exact later_of (CK.out _)) | fail))
        refine wpQuiet_nil ?_
        rintro _ ⟨z, rfl⟩
        have HE := hd (below_below B3.out z.bel)
        clear c0 c1 hany e24
        go_wp2_with fail
        go_ret
        exact VEnd.mk HE.out
      · clear hno
        have RD := hd hc
        clear hc
        go_wp2_with fail
        refine (RD.out _).mono ?_
        rintro e w2' ⟨rfl, hk⟩
        have B2 := hd (below_below B.out hk)
        clear hk B
        unfold le
        go_wp2_with fail
        have M3 := Lb.new w2' 0 0
        have B3 := hd (below_below B2.out (below1 w2' (Obj.cells #[Value.int IntKind.i64 0, Value.int IntKind.u32 0] 24)))
        clear B2
        generalize w2'.heap.size = gm at *
        generalize w2'.alloc (Obj.cells #[Value.int IntKind.i64 0, Value.int IntKind.u32 0] 24) = w3' at *
        have c0 := Ltr.c0 M3
        have c1 := Ltr.c1 M3
        have hany := Ltr.any w3'
        have e24 := eq24r
        refine wp_region_later (by kernel_rfl) (by kernel_rfl) ?_
        repeat (go_big_quiet_step (first | (go_at_call 33; exact later_of (at_any _ _ _)) | fail))
        refine wpQuiet_nil ?_
        rintro _ ⟨z, rfl⟩
        have HE := hd (below_below B3.out z.bel)
        clear c0 c1 hany e24
        go_wp2_with fail
        go_ret
        exact VEnd.mk HE.out

end Go.Proofs.Ytcgimbomandjfaa
