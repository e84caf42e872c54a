/- PolicyBack: the walk. -/
import Derived.Test.YtcigbfjmnhogiaaGreatDoorSsw
import Derived.Test.YtcigbfjmnhogiaaGreatDoorRsm
namespace Go.Proofs.YtcigbfjmnhogiaaGreatDoor
open Go.RowKit
set_option linter.unusedVariables false

/-- How Parse ends, where it tells a policy. -/
def PsS (w : World) (st : PolD) (e : Ending) (w' : World) : Prop :=
  ∃ x1 n1 k1 x2 n2 k2, e = .returned (.tuple #[.agg #[.slice x1 n1 k1, .slice x2 n2 k2], .int .i64 0, .int .i64 0]) ∧ El encR 3 w' (.slice x1 n1 k1) st.1 ∧ El encQ 5 w' (.slice x2 n2 k2) st.2 ∧ Below w.heap.size w w'
/-- .. and where none. -/
def PsN (w : World) (n : Nat) (e : Ending) (w' : World) : Prop := e = .returned (.tuple #[.agg #[.slice none 0 0, .slice none 0 0], .int .i64 (n : Int), .int .i64 70]) ∧ Below w.heap.size w w'
theorem parse_some {s : ByteArray} {st : PolD} {n : Nat} (h : parseM s = (some st, n)) (w : World) (hs : s.size ≤ 140737488355327) (h8 : 8 ≤ w.heap.size) (hg : Glob w) : Calls Tryz.prog 23 #[.string s] w fun e w' => PsS w st e w' := by
  refine (parse_at _ _ h w hs h8 hg).mono ?_
  rintro e w1 ⟨vr, vq, rfl, hown, hb1⟩
  have h1 := hown.elR
  have h2 := hown.elQ
  obtain ⟨x1, n1, cap1, rfl⟩ := own_form hown.2.2.2.2.1
  obtain ⟨x2, n2, cap2, rfl⟩ := own_form hown.2.2.2.2.2
  exact ⟨x1, n1, cap1, x2, n2, cap2, rfl, h1, h2, hb1⟩
theorem parse_none {s : ByteArray} {n : Nat} (h : parseM s = (none, n)) (w : World) (hs : s.size ≤ 140737488355327) (h8 : 8 ≤ w.heap.size) (hg : Glob w) : Calls Tryz.prog 23 #[.string s] w fun e w' => PsN w n e w' :=
  (parse_at _ _ h w hs h8 hg).mono fun e w' hh => hh

theorem count_ok (s : ByteArray) (w : World) : Calls Tryz.prog 25 #[.string s, .string ⟨#[10]⟩] w fun e w' => VEnd w (.int .i64 ((s.data.toList.count 10 : Nat) : Int)) e w' :=
  (Any.strings_Count_one countL s 10 w).mono fun e w' ⟨he, hw⟩ => by
    subst hw
    exact ⟨by rw [he]; rfl, Below.refl _ _⟩

set_option maxRecDepth 100000 in
set_option maxHeartbeats 4000000 in
theorem back_walk {w : World} {u0 v0 : Value} {rs : List RuleD} {qs : List ReaderD} (s : ByteArray) (hr : El encR 3 w u0 rs) (hq : El encQ 5 w v0 qs) (hz : s.size ≤ 140737488355327)
    (hR : ∀ r ∈ rs, 0 ≤ r.2.2 ∧ r.2.2 < 4294967296) (hQ : ∀ r ∈ qs, 0 ≤ r.2.2.1 ∧ r.2.2.1 < 4294967296)
    (ca cs : Bool) (st : PolD) (np : Nat) (hca : okPol rs qs = ca) (hcs : parseM s = (if cs then some st else none, np)) (h8 : 8 ≤ w.heap.size) (G : Glob w) :
    Calls Tryz.prog 5 #[.agg #[u0, v0], .string s] w fun e w' => VEnd w (.bool true) e w' := by
  obtain ⟨x, hx⟩ : ∃ x, tB (wrO rs qs) = x := ⟨_, rfl⟩
  obtain ⟨cnt, hcnt⟩ : ∃ cnt, s.data.toList.count 10 = cnt := ⟨_, rfl⟩
  obtain ⟨sn, hsn⟩ : ∃ sn, s.size = sn := ⟨_, rfl⟩
  have SN := hd hsn
  have ZS := hd hz
  have HG := hd G
  have CB : Hid (cnt ≤ 140737488355327) := hd (by
    have h1 : s.data.toList.count 10 ≤ s.data.toList.length := List.count_le_length
    have h2 : s.data.toList.length = s.size := by simp
    omega)
  have PGD := parseM_good s
  rw [hcs] at PGD
  have NB : Hid (cs = false → 1 ≤ np ∧ np ≤ cnt + 1) := hd fun h => by
    rw [h, hcnt] at PGD
    exact PGD
  have GG : Hid (cs = true → GoodP st ∧ (wrL st).length ≤ sn + 1) := hd fun h => by
    rw [h, hsn] at PGD
    exact PGD.2
  have CN : Hid (cs = false → ∀ w, Calls Tryz.prog 25 #[.string s, .string ⟨#[10]⟩] w fun e w' => VEnd w (.int .i64 (cnt : Int)) e w') := hd fun _ w => by
    have := count_ok s w
    rwa [hcnt] at this
  have PB : Hid (cs = false → ∀ w', Below w.heap.size w w' → Calls Tryz.prog 23 #[.string s] w' fun e w'' => PsN w' np e w'') := hd fun h w' k =>
    parse_none (by rw [hcs, h]; rfl) w' hz (Nat.le_trans h8 k.size) (G.keep k)
  have PG : Hid (cs = true → ∀ w', Below w.heap.size w w' → Calls Tryz.prog 23 #[.string s] w' fun e w'' => PsS w' st e w'') := hd fun h w' k =>
    parse_some (by rw [hcs, h]; rfl) w' hz (Nat.le_trans h8 k.size) (G.keep k)
  have W1 := hd fun w' (k : Below w.heap.size w w') => write_any (hr.keep k) (hq.keep k) hR hQ (G.keep k)
  rw [hx, hca] at W1
  have CK := hd fun w' (k : Below w.heap.size w w') => check_pol (hr.keep k) (hq.keep k)
  rw [hca] at CK
  have P1 : Hid (ca = true → ∀ w', Below w.heap.size w w' → Calls Tryz.prog 23 #[.string x] w' fun e w'' => PsS w' (rs, qs) e w'') := hd fun h w' k => by
    have hg := ok_goodP (hca.trans h) hR hQ
    have e : x = tB (wrL (rs, qs)) := by rw [← hx]; unfold wrO; rw [hca, h]; rfl
    rw [e]
    refine parse_some (parse_write hg) w' ?_ (Nat.le_trans h8 k.size) (G.keep k)
    rw [tB_size]
    have := wrL_le hg
    omega
  have WT := hd fun w' (k : Below w.heap.size w w') => works_true w' (Nat.le_trans h8 k.size) (G.keep k)
  have HR := hd hr
  have HQ := hd hq
  clear hR hQ hca hx hr hq h8 G hcs PGD hcnt hsn hz
  go_enter Tryz.func5, Tryz.ntmps5
  go_wp2_with fail
  have A1 := Bk.new w 25 #[u0, v0]
  have B1 := below1 w (Obj.cells #[u0, v0] 25)
  generalize w.alloc (Obj.cells #[u0, v0] 25) = w1 at *
  refine (WT.out w1 B1).mono ?_
  rintro e w2 ⟨rfl, hk⟩
  have A1 := A1.keep hk
  have B1 := below_below B1 hk
  have c0 := A1.cell 0
  have c1 := A1.cell 1
  simp at c0 c1
  clear hk
  go_wp2_with fail
  refine (W1.out w2 B1).mono ?_
  rintro e w3 ⟨rfl, hk⟩
  have A1 := A1.keep hk
  have B1 := below_below B1 hk
  have c0 := A1.cell 0
  have c1 := A1.cell 1
  simp at c0 c1
  clear hk
  go_wp2_with fail
  refine (CK.out w3 B1).mono ?_
  rintro e w4 ⟨rfl, hk⟩
  have A1 := A1.keep hk
  have B1 := below_below B1 hk
  have c0 := A1.cell 0
  have c1 := A1.cell 1
  simp at c0 c1
  clear hk
  clear W1 CK WT
  cases hc : ca
  case false =>
    go_wp2_with fail
    cases hs : cs
    case false =>
      refine (PB.out hs _ B1).mono ?_
      rintro e v1 ⟨rfl, hk⟩
      have CT := hd (CN.out hs)
      have N1 := NB.out hs
      have A1 := A1.keep hk
      have B1 := below_below B1 hk
      have c0 := A1.cell 0
      have c1 := A1.cell 1
      simp at c0 c1
      clear hk
      clear A1 c0 c1
      go_wp2_with fail
      have D1 := Bk.new v1 25 #[Value.slice none 0 0, Value.slice none 0 0]
      have B1 := below_below B1 (below1 v1 (Obj.cells #[Value.slice none 0 0, Value.slice none 0 0] 25))
      generalize v1.alloc (Obj.cells #[Value.slice none 0 0, Value.slice none 0 0] 25) = v2 at *
      obtain ⟨bz, hbz⟩ : ∃ bz, v1.heap.size = bz := ⟨_, rfl⟩
      rw [hbz] at D1 ⊢
      clear hbz
      have d0 := D1.cell 0
      have d1 := D1.cell 1
      simp at d0 d1
      have hn1 : (1 : Int) ≤ (np : Int) := by omega
      have hn2 : (np : Int) ≤ (cnt : Int) + 1 := by omega
      have hcw : IntKind.i64.wrap ((cnt : Int) + 1) = (cnt : Int) + 1 := wrap_small _ (by omega) (by have := CB.out; omega)
      go_wp2_with fail
      refine (CT.out v2).mono ?_
      rintro e v3 ⟨rfl, hk⟩
      have D1 := D1.keep hk
      have B1 := below_below B1 hk
      have d0 := D1.cell 0
      have d1 := D1.cell 1
      simp at d0 d1
      clear hk
      go_wp2_with fail
      refine (rsame_pol (rs := []) (qs := []) (ss := []) (ts := []) (Or.inl ⟨rfl, none, 0, rfl⟩) (Or.inl ⟨rfl, none, 0, rfl⟩) (Or.inl ⟨rfl, none, 0, rfl⟩) (Or.inl ⟨rfl, none, 0, rfl⟩)).mono ?_
      rintro e v4 ⟨rfl, hk⟩
      have HB := hd (below_below B1 hk)
      clear hk d0 d1 D1 B1 N1 hn1 hn2 hcw
      go_wp2_with fail
      go_ret
      exact VEnd.mk HB.out
    case true =>
      refine (PG.out hs _ B1).mono ?_
      rintro e v1 ⟨x1, n1, k1, x2, n2, k2, rfl, er, eq, hk⟩
      obtain ⟨hg, hlen⟩ := GG.out hs
      have G1 := hd hg
      have A1 := A1.keep hk
      have B1 := below_below B1 hk
      have c0 := A1.cell 0
      have c1 := A1.cell 1
      simp at c0 c1
      clear hk
      clear A1 c0 c1
      go_wp2_with fail
      have D1 := Bk.new v1 25 #[Value.slice x1 n1 k1, Value.slice x2 n2 k2]
      have B1 := below_below B1 (below1 v1 (Obj.cells #[Value.slice x1 n1 k1, Value.slice x2 n2 k2] 25))
      have ER := hd (er.keep (below1 v1 (Obj.cells #[Value.slice x1 n1 k1, Value.slice x2 n2 k2] 25)))
      have EQ := hd (eq.keep (below1 v1 (Obj.cells #[Value.slice x1 n1 k1, Value.slice x2 n2 k2] 25)))
      generalize v1.alloc (Obj.cells #[Value.slice x1 n1 k1, Value.slice x2 n2 k2] 25) = v2 at *
      obtain ⟨bz, hbz⟩ : ∃ bz, v1.heap.size = bz := ⟨_, rfl⟩
      rw [hbz] at D1 ⊢
      clear hbz er eq hg
      have d0 := D1.cell 0
      have d1 := D1.cell 1
      simp at d0 d1
      go_wp2_with fail
      refine (write_good ER.out EQ.out G1.out (HG.out.keep B1)).mono ?_
      rintro e v3 ⟨rfl, hk⟩
      have D1 := D1.keep hk
      have B1 := below_below B1 hk
      have ER3 := hd (ER.out.keep hk)
      have EQ3 := hd (EQ.out.keep hk)
      have d0 := D1.cell 0
      have d1 := D1.cell 1
      simp at d0 d1
      clear hk ER EQ
      obtain ⟨u, hu⟩ : ∃ u, tB (wrL (st.1, st.2)) = u := ⟨_, rfl⟩
      obtain ⟨un, hun⟩ : ∃ un, u.size = un := ⟨_, rfl⟩
      have hle : (un : Int) ≤ (sn : Int) + 1 := by
        have : u.size = (wrL st).length := by rw [← hu]; exact tB_size _
        have := SN.out
        omega
      have hlw : IntKind.i64.wrap ((sn : Int) + 1) = (sn : Int) + 1 := wrap_small _ (by omega) (by have := ZS.out; have := SN.out; omega)
      have hsn := SN.out
      rw [hu]
      clear hu hlen
      go_wp2_with fail
      have CK := check_pol ER3.out EQ3.out
      rw [goodP_ok G1.out] at CK
      refine CK.mono ?_
      rintro e v4 ⟨rfl, hk⟩
      have HB := hd (below_below B1 hk)
      clear hk d0 d1 D1 B1 CK
      go_wp2_with fail
      go_ret
      exact VEnd.mk HB.out
  case true =>
    go_wp2_with fail
    refine (P1.out hc w4 B1).mono ?_
    rintro e w5 ⟨x1, n1, k1, x2, n2, k2, rfl, er, eq, hk⟩
    have A1 := A1.keep hk
    have B1 := below_below B1 hk
    have c0 := A1.cell 0
    have c1 := A1.cell 1
    simp at c0 c1
    clear hk
    have D0 := A1.alloc (Obj.cells #[Value.slice x1 n1 k1, Value.slice x2 n2 k2] 25)
    clear A1 c0 c1
    have c0 : (w5.alloc (Obj.cells #[Value.slice x1 n1 k1, Value.slice x2 n2 k2] 25)).cell? ⟨w.heap.size, 0, none⟩ = some u0 := D0.cell 0
    have c1 : (w5.alloc (Obj.cells #[Value.slice x1 n1 k1, Value.slice x2 n2 k2] 25)).cell? ⟨w.heap.size, 1, none⟩ = some v0 := D0.cell 1
    have d0 : (w5.alloc (Obj.cells #[Value.slice x1 n1 k1, Value.slice x2 n2 k2] 25)).cell? ⟨w5.heap.size, 0, none⟩ = some (Value.slice x1 n1 k1) := (Bk.new w5 25 #[Value.slice x1 n1 k1, Value.slice x2 n2 k2]).cell 0
    have d1 : (w5.alloc (Obj.cells #[Value.slice x1 n1 k1, Value.slice x2 n2 k2] 25)).cell? ⟨w5.heap.size, 1, none⟩ = some (Value.slice x2 n2 k2) := (Bk.new w5 25 #[Value.slice x1 n1 k1, Value.slice x2 n2 k2]).cell 1
    go_wp2_with fail
    have D1 := Bk.new w5 25 #[Value.slice x1 n1 k1, Value.slice x2 n2 k2]
    have B1 := below_below B1 (below1 w5 (Obj.cells #[Value.slice x1 n1 k1, Value.slice x2 n2 k2] 25))
    have ER := hd (er.keep (below1 w5 (Obj.cells #[Value.slice x1 n1 k1, Value.slice x2 n2 k2] 25)))
    have EQ := hd (eq.keep (below1 w5 (Obj.cells #[Value.slice x1 n1 k1, Value.slice x2 n2 k2] 25)))
    generalize w5.alloc (Obj.cells #[Value.slice x1 n1 k1, Value.slice x2 n2 k2] 25) = w6 at *
    obtain ⟨by_, hby⟩ : ∃ by_, w5.heap.size = by_ := ⟨_, rfl⟩
    rw [hby] at D1 ⊢
    clear hby er eq d0 d1 c0 c1
    have SM := same_pol (HR.out.keep B1) (HQ.out.keep B1) ER.out EQ.out
    rw [sameP_self] at SM
    refine SM.mono ?_
    rintro e w7 ⟨rfl, hk⟩
    have ER7 := hd (ER.out.keep hk)
    have EQ7 := hd (EQ.out.keep hk)
    have D0 := D0.keep hk
    have D1 := D1.keep hk
    have B1 := below_below B1 hk
    clear hk SM ER EQ
    have d0 := D1.cell 0
    have d1 := D1.cell 1
    have c0 := D0.cell 0
    have c1 := D0.cell 1
    simp at d0 d1 c0 c1
    go_wp2_with fail
    have SM := rsame_pol (HR.out.keep B1) (HQ.out.keep B1) ER7.out EQ7.out
    rw [sameP_self] at SM
    refine SM.mono ?_
    rintro e w8 ⟨rfl, hk⟩
    have A1 := D0
    clear D1 d0 d1 SM D0 ER7 EQ7
    have A1 := A1.keep hk
    have B1 := below_below B1 hk
    have c0 := A1.cell 0
    have c1 := A1.cell 1
    simp at c0 c1
    clear hk
    go_wp2_with fail
    cases hs : cs
    case false =>
      refine (PB.out hs _ B1).mono ?_
      rintro e v1 ⟨rfl, hk⟩
      have CT := hd (CN.out hs)
      have N1 := NB.out hs
      have A1 := A1.keep hk
      have B1 := below_below B1 hk
      have c0 := A1.cell 0
      have c1 := A1.cell 1
      simp at c0 c1
      clear hk
      clear A1 c0 c1
      go_wp2_with fail
      have D1 := Bk.new v1 25 #[Value.slice none 0 0, Value.slice none 0 0]
      have B1 := below_below B1 (below1 v1 (Obj.cells #[Value.slice none 0 0, Value.slice none 0 0] 25))
      generalize v1.alloc (Obj.cells #[Value.slice none 0 0, Value.slice none 0 0] 25) = v2 at *
      obtain ⟨bz, hbz⟩ : ∃ bz, v1.heap.size = bz := ⟨_, rfl⟩
      rw [hbz] at D1 ⊢
      clear hbz
      have d0 := D1.cell 0
      have d1 := D1.cell 1
      simp at d0 d1
      have hn1 : (1 : Int) ≤ (np : Int) := by omega
      have hn2 : (np : Int) ≤ (cnt : Int) + 1 := by omega
      have hcw : IntKind.i64.wrap ((cnt : Int) + 1) = (cnt : Int) + 1 := wrap_small _ (by omega) (by have := CB.out; omega)
      go_wp2_with fail
      refine (CT.out v2).mono ?_
      rintro e v3 ⟨rfl, hk⟩
      have D1 := D1.keep hk
      have B1 := below_below B1 hk
      have d0 := D1.cell 0
      have d1 := D1.cell 1
      simp at d0 d1
      clear hk
      go_wp2_with fail
      refine (rsame_pol (rs := []) (qs := []) (ss := []) (ts := []) (Or.inl ⟨rfl, none, 0, rfl⟩) (Or.inl ⟨rfl, none, 0, rfl⟩) (Or.inl ⟨rfl, none, 0, rfl⟩) (Or.inl ⟨rfl, none, 0, rfl⟩)).mono ?_
      rintro e v4 ⟨rfl, hk⟩
      have HB := hd (below_below B1 hk)
      clear hk d0 d1 D1 B1 N1 hn1 hn2 hcw
      go_wp2_with fail
      go_ret
      exact VEnd.mk HB.out
    case true =>
      refine (PG.out hs _ B1).mono ?_
      rintro e v1 ⟨x1, n1, k1, x2, n2, k2, rfl, er, eq, hk⟩
      obtain ⟨hg, hlen⟩ := GG.out hs
      have G1 := hd hg
      have A1 := A1.keep hk
      have B1 := below_below B1 hk
      have c0 := A1.cell 0
      have c1 := A1.cell 1
      simp at c0 c1
      clear hk
      clear A1 c0 c1
      go_wp2_with fail
      have D1 := Bk.new v1 25 #[Value.slice x1 n1 k1, Value.slice x2 n2 k2]
      have B1 := below_below B1 (below1 v1 (Obj.cells #[Value.slice x1 n1 k1, Value.slice x2 n2 k2] 25))
      have ER := hd (er.keep (below1 v1 (Obj.cells #[Value.slice x1 n1 k1, Value.slice x2 n2 k2] 25)))
      have EQ := hd (eq.keep (below1 v1 (Obj.cells #[Value.slice x1 n1 k1, Value.slice x2 n2 k2] 25)))
      generalize v1.alloc (Obj.cells #[Value.slice x1 n1 k1, Value.slice x2 n2 k2] 25) = v2 at *
      obtain ⟨bz, hbz⟩ : ∃ bz, v1.heap.size = bz := ⟨_, rfl⟩
      rw [hbz] at D1 ⊢
      clear hbz er eq hg
      have d0 := D1.cell 0
      have d1 := D1.cell 1
      simp at d0 d1
      go_wp2_with fail
      refine (write_good ER.out EQ.out G1.out (HG.out.keep B1)).mono ?_
      rintro e v3 ⟨rfl, hk⟩
      have D1 := D1.keep hk
      have B1 := below_below B1 hk
      have ER3 := hd (ER.out.keep hk)
      have EQ3 := hd (EQ.out.keep hk)
      have d0 := D1.cell 0
      have d1 := D1.cell 1
      simp at d0 d1
      clear hk ER EQ
      obtain ⟨u, hu⟩ : ∃ u, tB (wrL (st.1, st.2)) = u := ⟨_, rfl⟩
      obtain ⟨un, hun⟩ : ∃ un, u.size = un := ⟨_, rfl⟩
      have hle : (un : Int) ≤ (sn : Int) + 1 := by
        have : u.size = (wrL st).length := by rw [← hu]; exact tB_size _
        have := SN.out
        omega
      have hlw : IntKind.i64.wrap ((sn : Int) + 1) = (sn : Int) + 1 := wrap_small _ (by omega) (by have := ZS.out; have := SN.out; omega)
      have hsn := SN.out
      rw [hu]
      clear hu hlen
      go_wp2_with fail
      have CK := check_pol ER3.out EQ3.out
      rw [goodP_ok G1.out] at CK
      refine CK.mono ?_
      rintro e v4 ⟨rfl, hk⟩
      have HB := hd (below_below B1 hk)
      clear hk d0 d1 D1 B1 CK
      go_wp2_with fail
      go_ret
      exact VEnd.mk HB.out

end Go.Proofs.YtcigbfjmnhogiaaGreatDoor
