/- PolicyTells: the walk. -/
import Derived.Test.YtcigbfjmnhogiaaGreatDoorSsw
import Derived.Test.YtcigbfjmnhogiaaGreatDoorRsm
import Derived.Test.YtcigbfjmnhogiaaGreatDoorRwt
import Derived.Test.YtcigbfjmnhogiaaGreatDoorRf
import Derived.Test.YtcigbfjmnhogiaaGreatDoorCp
import Derived.Test.YtcigbfjmnhogiaaGreatDoorOpm
import Derived.Test.YtcigbfjmnhogiaaGreatDoorWfp
namespace Go.Proofs.YtcigbfjmnhogiaaGreatDoor
open Go.RowKit
set_option linter.unusedVariables false

theorem rwrite_any {w : World} {u v : Value} {rs : List RuleD} {qs : List ReaderD} (hr : El encR 3 w u rs) (hq : El encQ 5 w v qs) (hR : ∀ r ∈ rs, 0 ≤ r.2.2 ∧ r.2.2 < 4294967296) (hQ : ∀ r ∈ qs, 0 ≤ r.2.2.1 ∧ r.2.2.1 < 4294967296) (G : Glob w) :
    Calls Tryz.prog 11 #[.agg #[u, v]] w fun e w' => VEnd w (.tuple #[.string (tB (wrO rs qs)), .int .i64 (ckI (okPol rs qs))]) e w' := by
  cases hf : okPol rs qs
  · have e : wrO rs qs = [] := by unfold wrO; rw [hf]; rfl
    rw [e]
    exact rwrite_bad hr hq hf
  · have e : wrO rs qs = wrL (rs, qs) := by unfold wrO; rw [hf]; rfl
    rw [e]
    exact rwrite_good hr hq (ok_goodP hf hR hQ) G
/-- While the law compares: two policies, a copy, two readers. -/
structure TS (w : World) (bp bq bc r1 r2 : Nat) (uA vA uB vB a c : Value) (rd : Array Value) (rs : List RuleD) (qs : List ReaderD) (W : World) : Prop where
  bel : Below w.heap.size w W
  p : Bk W bp 25 #[uA, vA]
  q : Bk W bq 25 #[uB, vB]
  cp : Bk W bc 25 #[a, c]
  d1 : Bk W r1 34 rd
  d2 : Bk W r2 34 rd
  ea : El encR 3 W a rs
  ec : El encQ 5 W c qs
theorem TS.call {w W W' : World} {bp bq bc r1 r2 : Nat} {uA vA uB vB a c : Value} {rd : Array Value} {rs : List RuleD} {qs : List ReaderD} (h : TS w bp bq bc r1 r2 uA vA uB vB a c rd rs qs W) (k : Below W.heap.size W W') : TS w bp bq bc r1 r2 uA vA uB vB a c rd rs qs W' :=
  ⟨below_below h.bel k, h.p.keep k, h.q.keep k, h.cp.keep k, h.d1.keep k, h.d2.keep k, h.ea.keep k, h.ec.keep k⟩

set_option maxRecDepth 100000 in
set_option maxHeartbeats 16000000 in
theorem tells_walk {w : World} {uA vA uB vB : Value} {rs ss : List RuleD} {qs ts : List ReaderD} (n : ByteArray) (hr : El encR 3 w uA rs) (hq : El encQ 5 w vA qs) (hs : El encR 3 w uB ss) (ht : El encQ 5 w vB ts)
    (hR : ∀ r ∈ rs, 0 ≤ r.2.2 ∧ r.2.2 < 4294967296) (hQ : ∀ r ∈ qs, 0 ≤ r.2.2.1 ∧ r.2.2.1 < 4294967296) (hn : rs.length * 32 ≤ 140737488355328) (hm : qs.length * 48 ≤ 140737488355328) (h8 : 8 ≤ w.heap.size) (G : Glob w) :
    Calls Tryz.prog 3 #[.agg #[uA, vA], .agg #[uB, vB], .string n] w fun e w' => VEnd w (.bool true) e w' := by
  obtain ⟨x, hx⟩ : ∃ x, tB (wrO rs qs) = x := ⟨_, rfl⟩
  obtain ⟨e0, he0⟩ : ∃ e0, ckI (okPol rs qs) = e0 := ⟨_, rfl⟩
  obtain ⟨⟨lx, lp⟩, hl⟩ : ∃ l, lblOf rs qs n = l := ⟨_, rfl⟩
  obtain ⟨⟨⟨s5, x5, p5, a5, b5⟩, b6⟩, hrd⟩ : ∃ l, rdrOf rs qs n = l := ⟨_, rfl⟩
  obtain ⟨sm, hsm⟩ : ∃ sm, sameP (rs, qs) (ss, ts) = sm := ⟨_, rfl⟩
  obtain ⟨nm, hnm⟩ : ∃ nm, isNm n = nm := ⟨_, rfl⟩
  have H14 := hd fun w => isname_any n w
  rw [hnm] at H14
  have H15 := hd fun w => risname_any n w
  rw [hnm] at H15
  have H16 : Hid (∀ w' {a c : Value}, El encR 3 w' a rs → El encQ 5 w' c qs → Calls Tryz.prog 16 #[.agg #[a, c]] w' fun e w'' => VEnd w' (.int .i64 e0) e w'') := hd fun w' a c h1 h2 => by
    rw [← he0]
    exact check_pol h1 h2
  have H17 := hd fun w' (k : Below w.heap.size w w') => rcheck_pol (hr.keep k) (hq.keep k)
  rw [he0] at H17
  have H18 : Hid (∀ w' {a c : Value}, El encR 3 w' a rs → El encQ 5 w' c qs → Calls Tryz.prog 18 #[.agg #[a, c], .string n] w' fun e w'' => VEnd w' (.agg #[.int .i64 lx, .int .u32 lp]) e w'') := hd fun w' a c h1 h2 => by
    have := label_pol n h1 h2
    rwa [hl] at this
  have H19 := hd fun w' (k : Below w.heap.size w w') => rlabel_pol n (hr.keep k) (hq.keep k)
  rw [hl] at H19
  have H12 : Hid (∀ w' {a c : Value}, El encR 3 w' a rs → El encQ 5 w' c qs → Calls Tryz.prog 12 #[.agg #[a, c], .string n] w' fun e w'' => VEnd w' (.tuple #[.agg #[Value.string s5, Value.int IntKind.i64 x5, Value.int IntKind.u32 p5, Value.int IntKind.i64 a5, Value.int IntKind.i64 b5], .bool b6]) e w'') := hd fun w' a c h1 h2 => by
    have := reader_pol n h1 h2
    rw [hrd] at this
    exact this
  have H13 : Hid (∀ w', Below w.heap.size w w' → Calls Tryz.prog 13 #[.agg #[uA, vA], .string n] w' fun e w'' => VEnd w' (.tuple #[.agg #[Value.string s5, Value.int IntKind.i64 x5, Value.int IntKind.u32 p5, Value.int IntKind.i64 a5, Value.int IntKind.i64 b5], .bool b6]) e w'') := hd fun w' k => by
    have := rreader_pol n (hr.keep k) (hq.keep k)
    rw [hrd] at this
    exact this
  have H10 : Hid (∀ w' {a c : Value}, Below w.heap.size w w' → El encR 3 w' a rs → El encQ 5 w' c qs → Calls Tryz.prog 10 #[.agg #[a, c]] w' fun e w'' => VEnd w' (.tuple #[.string x, .int .i64 e0]) e w'') := hd fun w' a c k h1 h2 => by
    have := write_any h1 h2 hR hQ (G.keep k)
    rwa [hx, he0] at this
  have H11 := hd fun w' (k : Below w.heap.size w w') => rwrite_any (hr.keep k) (hq.keep k) hR hQ (G.keep k)
  rw [hx, he0] at H11
  have H20 : Hid (∀ w' {a c : Value}, El encR 3 w' a rs → El encQ 5 w' c qs → Below w.heap.size w w' → Calls Tryz.prog 20 #[.agg #[a, c], .agg #[uB, vB]] w' fun e w'' => VEnd w' (.bool sm) e w'') := hd fun w' a c h1 h2 k => by
    have := same_pol h1 h2 (hs.keep k) (ht.keep k)
    rwa [hsm] at this
  have H21 := hd fun w' (k : Below w.heap.size w w') => rsame_pol (hr.keep k) (hq.keep k) (hs.keep k) (ht.keep k)
  rw [hsm] at H21
  have H21b : Hid (∀ w' {a c : Value}, El encR 3 w' a rs → El encQ 5 w' c qs → Below w.heap.size w w' → Calls Tryz.prog 21 #[.agg #[a, c], .agg #[uA, vA]] w' fun e w'' => VEnd w' (.bool true) e w'') := hd fun w' a c h1 h2 k => by
    have := rsame_pol h1 h2 (hr.keep k) (hq.keep k)
    rwa [sameP_self] at this
  have H22 := hd fun w' (k : Below w.heap.size w w') => works_true w' (Nat.le_trans h8 k.size) (G.keep k)
  have H9 := hd fun w' (k : Below w.heap.size w w') => copy_ok (hr.keep k) (hq.keep k) hn hm
  have EL : Hid (∀ w, (Op.equalIn 10000 32 (.agg #[.int .i64 lx, .int .u32 lp]) (.agg #[.int .i64 lx, .int .u32 lp])).run Tryz.prog w = .ok true w) := hd fun w => by rw [eq24]; simp
  have ER : Hid (∀ w, (Op.equalIn 10000 34 (.agg #[Value.string s5, Value.int IntKind.i64 x5, Value.int IntKind.u32 p5, Value.int IntKind.i64 a5, Value.int IntKind.i64 b5]) (.agg #[Value.string s5, Value.int IntKind.i64 x5, Value.int IntKind.u32 p5, Value.int IntKind.i64 a5, Value.int IntKind.i64 b5])).run Tryz.prog w = .ok true w) := hd fun w => by rw [eq34, (sameQ_iff (s5, x5, p5, a5, b5) (s5, x5, p5, a5, b5)).2 rfl]
  clear hr hq hs ht hR hQ hn hm h8 G hx he0 hl hrd hsm hnm
  go_enter Tryz.func3, Tryz.ntmps3
  go_wp2_with fail
  have A1 := (Bk.new w 25 #[uA, vA]).alloc (Obj.cells #[uB, vB] 25)
  have A2 := Bk.new (w.alloc (Obj.cells #[uA, vA] 25)) 25 #[uB, vB]
  rw [World.size_alloc] at A2
  have B1 := below2 w (Obj.cells #[uA, vA] 25) (Obj.cells #[uB, vB] 25)
  generalize (w.alloc (Obj.cells #[uA, vA] 25)).alloc (Obj.cells #[uB, vB] 25) = w1 at *
  obtain ⟨bp, hbp⟩ : ∃ bp, w.heap.size = bp := ⟨_, rfl⟩
  obtain ⟨bq, hbq⟩ : ∃ bq, w.heap.size + 1 = bq := ⟨_, rfl⟩
  rw [hbq] at A2 ⊢
  rw [hbp] at A1 ⊢
  clear hbp hbq
  refine (H9.out w1 B1).mono ?_
  rintro e w2 ⟨y1, m1, k1, y2, m2, k2, rfl, ea, ec, hk⟩
  have A1 := A1.keep hk
  have A2 := A2.keep hk
  have B1 := below_below B1 hk
  clear hk
  have d0 : (w2.alloc (Obj.cells #[Value.slice y1 m1 k1, Value.slice y2 m2 k2] 25)).cell? ⟨w2.heap.size, 0, none⟩ = some (Value.slice y1 m1 k1) := (Bk.new w2 25 #[Value.slice y1 m1 k1, Value.slice y2 m2 k2]).cell 0
  have d1 : (w2.alloc (Obj.cells #[Value.slice y1 m1 k1, Value.slice y2 m2 k2] 25)).cell? ⟨w2.heap.size, 1, none⟩ = some (Value.slice y2 m2 k2) := (Bk.new w2 25 #[Value.slice y1 m1 k1, Value.slice y2 m2 k2]).cell 1
  go_wp2_with fail
  have D := Bk.new w2 25 #[Value.slice y1 m1 k1, Value.slice y2 m2 k2]
  have K2 := below1 w2 (Obj.cells #[Value.slice y1 m1 k1, Value.slice y2 m2 k2] 25)
  have A1 := A1.keep K2
  have A2 := A2.keep K2
  have B1 := below_below B1 K2
  have ea := ea.keep K2
  have ec := ec.keep K2
  generalize w2.alloc (Obj.cells #[Value.slice y1 m1 k1, Value.slice y2 m2 k2] 25) = w3 at *
  obtain ⟨bc, hbc⟩ : ∃ bc, w2.heap.size = bc := ⟨_, rfl⟩
  rw [hbc] at D d0 d1 ⊢
  clear hbc K2
  obtain ⟨a, hae⟩ : ∃ a, Value.slice y1 m1 k1 = a := ⟨_, rfl⟩
  obtain ⟨c, hce⟩ : ∃ c, Value.slice y2 m2 k2 = c := ⟨_, rfl⟩
  rw [hae] at D ea d0 ⊢
  rw [hce] at D ec d1 ⊢
  have HA := hd hae
  have HCe := hd hce
  clear hae hce
  refine (H10.out w3 B1 ea ec).mono ?_
  rintro e w4 ⟨rfl, hk⟩
  have A1 := A1.keep hk
  have A2 := A2.keep hk
  have B1 := below_below B1 hk
  have D := D.keep hk
  have ea := ea.keep hk
  have ec := ec.keep hk
  have c0 := A1.cell 0
  have c1 := A1.cell 1
  have d0 := D.cell 0
  have d1 := D.cell 1
  simp at c0 c1 d0 d1
  clear hk
  go_wp2_with fail
  refine (H11.out w4 B1).mono ?_
  rintro e w5 ⟨rfl, hk⟩
  have A1 := A1.keep hk
  have A2 := A2.keep hk
  have B1 := below_below B1 hk
  have D := D.keep hk
  have ea := ea.keep hk
  have ec := ec.keep hk
  have c0 := A1.cell 0
  have c1 := A1.cell 1
  have d0 := D.cell 0
  have d1 := D.cell 1
  simp at c0 c1 d0 d1
  clear hk
  go_wp2_with fail
  refine (H12.out w5 ea ec).mono ?_
  rintro e w6 ⟨rfl, hk⟩
  have A1 := A1.keep hk
  have A2 := A2.keep hk
  have B1 := below_below B1 hk
  have D := D.keep hk
  have ea := ea.keep hk
  have ec := ec.keep hk
  have c0 := A1.cell 0
  have c1 := A1.cell 1
  have d0 := D.cell 0
  have d1 := D.cell 1
  simp at c0 c1 d0 d1
  clear hk
  have p0 : (w6.alloc (Obj.cells #[Value.string s5, Value.int IntKind.i64 x5, Value.int IntKind.u32 p5, Value.int IntKind.i64 a5, Value.int IntKind.i64 b5] 34)).cell? ⟨bp, 0, none⟩ = some uA := (A1.alloc _).cell 0
  have p1 : (w6.alloc (Obj.cells #[Value.string s5, Value.int IntKind.i64 x5, Value.int IntKind.u32 p5, Value.int IntKind.i64 a5, Value.int IntKind.i64 b5] 34)).cell? ⟨bp, 1, none⟩ = some vA := (A1.alloc _).cell 1
  go_wp2_with fail
  have E1 := Bk.new w6 34 #[Value.string s5, Value.int IntKind.i64 x5, Value.int IntKind.u32 p5, Value.int IntKind.i64 a5, Value.int IntKind.i64 b5]
  have hk := below1 w6 (Obj.cells #[Value.string s5, Value.int IntKind.i64 x5, Value.int IntKind.u32 p5, Value.int IntKind.i64 a5, Value.int IntKind.i64 b5] 34)
  generalize w6.alloc (Obj.cells #[Value.string s5, Value.int IntKind.i64 x5, Value.int IntKind.u32 p5, Value.int IntKind.i64 a5, Value.int IntKind.i64 b5] 34) = w7 at *
  have A1 := A1.keep hk
  have A2 := A2.keep hk
  have B1 := below_below B1 hk
  have D := D.keep hk
  have ea := ea.keep hk
  have ec := ec.keep hk
  have c0 := A1.cell 0
  have c1 := A1.cell 1
  have d0 := D.cell 0
  have d1 := D.cell 1
  simp at c0 c1 d0 d1
  clear hk
  obtain ⟨r1, hr1⟩ : ∃ r1, w6.heap.size = r1 := ⟨_, rfl⟩
  rw [hr1] at E1 ⊢
  clear hr1
  refine (H13.out w7 B1).mono ?_
  rintro e w8 ⟨rfl, hk⟩
  have E1 := E1.keep hk
  have A1 := A1.keep hk
  have A2 := A2.keep hk
  have B1 := below_below B1 hk
  have D := D.keep hk
  have ea := ea.keep hk
  have ec := ec.keep hk
  have c0 := A1.cell 0
  have c1 := A1.cell 1
  have d0 := D.cell 0
  have d1 := D.cell 1
  simp at c0 c1 d0 d1
  clear hk
  go_wp2_with fail
  have E2 := Bk.new w8 34 #[Value.string s5, Value.int IntKind.i64 x5, Value.int IntKind.u32 p5, Value.int IntKind.i64 a5, Value.int IntKind.i64 b5]
  have hk := below1 w8 (Obj.cells #[Value.string s5, Value.int IntKind.i64 x5, Value.int IntKind.u32 p5, Value.int IntKind.i64 a5, Value.int IntKind.i64 b5] 34)
  generalize w8.alloc (Obj.cells #[Value.string s5, Value.int IntKind.i64 x5, Value.int IntKind.u32 p5, Value.int IntKind.i64 a5, Value.int IntKind.i64 b5] 34) = w9 at *
  have E1 := E1.keep hk
  have A1 := A1.keep hk
  have A2 := A2.keep hk
  have B1 := below_below B1 hk
  have D := D.keep hk
  have ea := ea.keep hk
  have ec := ec.keep hk
  have c0 := A1.cell 0
  have c1 := A1.cell 1
  have d0 := D.cell 0
  have d1 := D.cell 1
  simp at c0 c1 d0 d1
  clear hk
  obtain ⟨r2, hr2⟩ : ∃ r2, w8.heap.size = r2 := ⟨_, rfl⟩
  rw [hr2] at E2 ⊢
  clear hr2
  have HT := hd (⟨B1, A1, A2, D, E1, E2, ea, ec⟩ : TS w bp bq bc r1 r2 uA vA uB vB a c #[Value.string s5, Value.int IntKind.i64 x5, Value.int IntKind.u32 p5, Value.int IntKind.i64 a5, Value.int IntKind.i64 b5] rs qs w9)
  clear A1 A2 B1 D E1 E2 ea ec c0 c1 d0 d1 p0 p1 H9 H10 H11 H12 H13
  refine wp_region_each 58 (fun W W' => Below W.heap.size W W') (fun i v W => match i with | 0 => v = Value.string n | 1 => v = Value.bool nm | 2 => v = Value.string n | 3 => v = Value.bool nm | 4 => v = Value.bool true | 5 => v = Value.bool true | 6 => v = Value.agg #[a, c] | 7 => v = Value.int IntKind.i64 e0 | 8 => v = Value.agg #[uA, vA] | 9 => v = Value.int IntKind.i64 e0 | 10 => v = Value.bool true | 11 => v = Value.bool true | 12 => v = Value.bool true | 13 => v = Value.string x | 14 => v = Value.string x | 15 => v = Value.bool true | 16 => v = Value.bool true | 17 => v = Value.bool true | 18 => v = Value.int IntKind.i64 e0 | 19 => v = Value.int IntKind.i64 e0 | 20 => v = Value.bool true | 21 => v = Value.bool true | 22 => v = Value.bool true | 23 => v = Value.agg #[a, c] | 24 => v = Value.string n | 25 => v = Value.agg #[Value.int IntKind.i64 lx, Value.int IntKind.u32 lp] | 26 => v = Value.agg #[uA, vA] | 27 => v = Value.string n | 28 => v = Value.agg #[Value.int IntKind.i64 lx, Value.int IntKind.u32 lp] | 29 => v = Value.bool true | 30 => v = Value.bool true | 31 => v = Value.bool true | 32 => v = Value.agg #[Value.string s5, Value.int IntKind.i64 x5, Value.int IntKind.u32 p5, Value.int IntKind.i64 a5, Value.int IntKind.i64 b5] | 33 => v = Value.agg #[Value.string s5, Value.int IntKind.i64 x5, Value.int IntKind.u32 p5, Value.int IntKind.i64 a5, Value.int IntKind.i64 b5] | 34 => v = Value.bool true | 35 => v = Value.bool true | 36 => v = Value.bool true | 37 => v = Value.bool b6 | 38 => v = Value.bool b6 | 39 => v = Value.bool true | 40 => v = Value.bool true | 41 => v = Value.bool true | 42 => v = Value.agg #[a, c] | 43 => v = Value.agg #[uB, vB] | 44 => v = Value.bool sm | 45 => v = Value.agg #[uA, vA] | 46 => v = Value.agg #[uB, vB] | 47 => v = Value.bool sm | 48 => v = Value.bool true | 49 => v = Value.bool true | 50 => v = Value.bool true | 51 => v = Value.agg #[a, c] | 52 => v = Value.agg #[uA, vA] | 53 => v = Value.bool true | 54 => v = Value.bool true | 55 => v = Value.bool true | 56 => v = Value.bool true | 57 => v = Value.bool true | _ => True) (fun _ W => TS w bp bq bc r1 r2 uA vA uB vB a c #[Value.string s5, Value.int IntKind.i64 x5, Value.int IntKind.u32 p5, Value.int IntKind.i64 a5, Value.int IntKind.i64 b5] rs qs W) (by kernel_rfl) (by kernel_rfl) (fun j v W W' hE h => by
      match j with
      | 0 => exact h
      | 1 => exact h
      | 2 => exact h
      | 3 => exact h
      | 4 => exact h
      | 5 => exact h
      | 6 => exact h
      | 7 => exact h
      | 8 => exact h
      | 9 => exact h
      | 10 => exact h
      | 11 => exact h
      | 12 => exact h
      | 13 => exact h
      | 14 => exact h
      | 15 => exact h
      | 16 => exact h
      | 17 => exact h
      | 18 => exact h
      | 19 => exact h
      | 20 => exact h
      | 21 => exact h
      | 22 => exact h
      | 23 => exact h
      | 24 => exact h
      | 25 => exact h
      | 26 => exact h
      | 27 => exact h
      | 28 => exact h
      | 29 => exact h
      | 30 => exact h
      | 31 => exact h
      | 32 => exact h
      | 33 => exact h
      | 34 => exact h
      | 35 => exact h
      | 36 => exact h
      | 37 => exact h
      | 38 => exact h
      | 39 => exact h
      | 40 => exact h
      | 41 => exact h
      | 42 => exact h
      | 43 => exact h
      | 44 => exact h
      | 45 => exact h
      | 46 => exact h
      | 47 => exact h
      | 48 => exact h
      | 49 => exact h
      | 50 => exact h
      | 51 => exact h
      | 52 => exact h
      | 53 => exact h
      | 54 => exact h
      | 55 => exact h
      | 56 => exact h
      | 57 => exact h
      | _ + 58 => trivial) (HT.out.call (Below.refl _ _).drew) ?_ ?_
  · simp only [List.take_succ_cons, List.take_zero]
    refine Each.start (fun A hA => ?_)
    have PUTS : ∀ v0 v1 v2 v3 v4 v5 v6 v7 v8 v9 v10 v11 v12 v13 v14 v15 v16 v17 v18 v19 v20 v21 v22 v23 v24 v25 v26 v27 v28 v29 v30 v31 v32 v33 v34 v35 v36 v37 v38 v39 v40 v41 v42 v43 v44 v45 v46 v47 v48 v49 v50 v51 v52 v53 v54 v55 v56 v57 : Value, A [v0, v1, v2, v3, v4, v5, v6, v7, v8, v9, v10, v11, v12, v13, v14, v15, v16, v17, v18, v19, v20, v21, v22, v23, v24, v25, v26, v27, v28, v29, v30, v31, v32, v33, v34, v35, v36, v37, v38, v39, v40, v41, v42, v43, v44, v45, v46, v47, v48, v49, v50, v51, v52, v53, v54, v55, v56, v57] = A [v0, v1, v2, v3, v4, v5, v6, v7, v8, v9, v10, v11, v12, v13, v14, v15, v16, v17, v18, v19, v20, v21, v22, v23, v24, v25, v26, v27, v28, v29, v30, v31, v32, v33, v34, v35, v36, v37, v38, v39, v40, v41, v42, v43, v44, v45, v46, v47, v48, v49, v50, v51, v52, v53, v54, v55, v56, v57] := fun v0 v1 v2 v3 v4 v5 v6 v7 v8 v9 v10 v11 v12 v13 v14 v15 v16 v17 v18 v19 v20 v21 v22 v23 v24 v25 v26 v27 v28 v29 v30 v31 v32 v33 v34 v35 v36 v37 v38 v39 v40 v41 v42 v43 v44 v45 v46 v47 v48 v49 v50 v51 v52 v53 v54 v55 v56 v57 => rfl
    conv at PUTS => intro v0 v1 v2 v3 v4 v5 v6 v7 v8 v9 v10 v11 v12 v13 v14 v15 v16 v17 v18 v19 v20 v21 v22 v23 v24 v25 v26 v27 v28 v29 v30 v31 v32 v33 v34 v35 v36 v37 v38 v39 v40 v41 v42 v43 v44 v45 v46 v47 v48 v49 v50 v51 v52 v53 v54 v55 v56 v57; rhs; rw [hA]; simp only [puts, Act.put, List.setIfInBounds_toArray, List.set_cons_zero, List.set_cons_succ]
    refine Each.consA A hA (fun vs W hl => ?_) ?_
    · apply with58 hl
      clear hl vs
      intro v0 v1 v2 v3 v4 v5 v6 v7 v8 v9 v10 v11 v12 v13 v14 v15 v16 v17 v18 v19 v20 v21 v22 v23 v24 v25 v26 v27 v28 v29 v30 v31 v32 v33 v34 v35 v36 v37 v38 v39 v40 v41 v42 v43 v44 v45 v46 v47 v48 v49 v50 v51 v52 v53 v54 v55 v56 v57 hg hd K hK
      clear hd
      rw [if_pos (by rw [PUTS]; kernel_rfl)]
      simp only [PUTS, Act.put, List.setIfInBounds_toArray, List.set_cons_zero, List.set_cons_succ] at hK ⊢
      go_simp
      exact hK _ _ (Below.refl _ _) (by first | rfl | simp) hg
    refine Each.consA A hA (fun vs W hl => ?_) ?_
    · apply with58 hl
      clear hl vs
      intro v0 v1 v2 v3 v4 v5 v6 v7 v8 v9 v10 v11 v12 v13 v14 v15 v16 v17 v18 v19 v20 v21 v22 v23 v24 v25 v26 v27 v28 v29 v30 v31 v32 v33 v34 v35 v36 v37 v38 v39 v40 v41 v42 v43 v44 v45 v46 v47 v48 v49 v50 v51 v52 v53 v54 v55 v56 v57 hg hd K hK
      have d0 : v0 = Value.string n := hd 0 v0 (by kernel_rfl) rfl
      subst d0
      clear hd
      rw [if_pos (by rw [PUTS]; kernel_rfl)]
      simp only [PUTS, Act.put, List.setIfInBounds_toArray, List.set_cons_zero, List.set_cons_succ] at hK ⊢
      go_simp
      refine (H14.out _).mono ?_
      rintro e w' ⟨rfl, hk⟩
      exact hK _ _ hk rfl (TS.call hg hk)
    refine Each.consA A hA (fun vs W hl => ?_) ?_
    · apply with58 hl
      clear hl vs
      intro v0 v1 v2 v3 v4 v5 v6 v7 v8 v9 v10 v11 v12 v13 v14 v15 v16 v17 v18 v19 v20 v21 v22 v23 v24 v25 v26 v27 v28 v29 v30 v31 v32 v33 v34 v35 v36 v37 v38 v39 v40 v41 v42 v43 v44 v45 v46 v47 v48 v49 v50 v51 v52 v53 v54 v55 v56 v57 hg hd K hK
      clear hd
      rw [if_pos (by rw [PUTS]; kernel_rfl)]
      simp only [PUTS, Act.put, List.setIfInBounds_toArray, List.set_cons_zero, List.set_cons_succ] at hK ⊢
      go_simp
      exact hK _ _ (Below.refl _ _) (by first | rfl | simp) hg
    refine Each.consA A hA (fun vs W hl => ?_) ?_
    · apply with58 hl
      clear hl vs
      intro v0 v1 v2 v3 v4 v5 v6 v7 v8 v9 v10 v11 v12 v13 v14 v15 v16 v17 v18 v19 v20 v21 v22 v23 v24 v25 v26 v27 v28 v29 v30 v31 v32 v33 v34 v35 v36 v37 v38 v39 v40 v41 v42 v43 v44 v45 v46 v47 v48 v49 v50 v51 v52 v53 v54 v55 v56 v57 hg hd K hK
      have d2 : v2 = Value.string n := hd 2 v2 (by kernel_rfl) rfl
      subst d2
      clear hd
      rw [if_pos (by rw [PUTS]; kernel_rfl)]
      simp only [PUTS, Act.put, List.setIfInBounds_toArray, List.set_cons_zero, List.set_cons_succ] at hK ⊢
      go_simp
      refine (H15.out _).mono ?_
      rintro e w' ⟨rfl, hk⟩
      exact hK _ _ hk rfl (TS.call hg hk)
    refine Each.consA A hA (fun vs W hl => ?_) ?_
    · apply with58 hl
      clear hl vs
      intro v0 v1 v2 v3 v4 v5 v6 v7 v8 v9 v10 v11 v12 v13 v14 v15 v16 v17 v18 v19 v20 v21 v22 v23 v24 v25 v26 v27 v28 v29 v30 v31 v32 v33 v34 v35 v36 v37 v38 v39 v40 v41 v42 v43 v44 v45 v46 v47 v48 v49 v50 v51 v52 v53 v54 v55 v56 v57 hg hd K hK
      have d1 : v1 = Value.bool nm := hd 1 v1 (by kernel_rfl) rfl
      subst d1
      have d3 : v3 = Value.bool nm := hd 3 v3 (by kernel_rfl) rfl
      subst d3
      clear hd
      rw [if_pos (by rw [PUTS]; kernel_rfl)]
      simp only [PUTS, Act.put, List.setIfInBounds_toArray, List.set_cons_zero, List.set_cons_succ] at hK ⊢
      go_simp
      exact hK _ _ (Below.refl _ _) (by first | rfl | simp) hg
    refine Each.consA A hA (fun vs W hl => ?_) ?_
    · apply with58 hl
      clear hl vs
      intro v0 v1 v2 v3 v4 v5 v6 v7 v8 v9 v10 v11 v12 v13 v14 v15 v16 v17 v18 v19 v20 v21 v22 v23 v24 v25 v26 v27 v28 v29 v30 v31 v32 v33 v34 v35 v36 v37 v38 v39 v40 v41 v42 v43 v44 v45 v46 v47 v48 v49 v50 v51 v52 v53 v54 v55 v56 v57 hg hd K hK
      have d4 : v4 = Value.bool true := hd 4 v4 (by kernel_rfl) rfl
      subst d4
      clear hd
      rw [if_pos (by rw [PUTS]; kernel_rfl)]
      simp only [PUTS, Act.put, List.setIfInBounds_toArray, List.set_cons_zero, List.set_cons_succ] at hK ⊢
      go_simp
      exact hK _ _ (Below.refl _ _) (by first | rfl | simp) hg
    refine Each.consA A hA (fun vs W hl => ?_) ?_
    · apply with58 hl
      clear hl vs
      intro v0 v1 v2 v3 v4 v5 v6 v7 v8 v9 v10 v11 v12 v13 v14 v15 v16 v17 v18 v19 v20 v21 v22 v23 v24 v25 v26 v27 v28 v29 v30 v31 v32 v33 v34 v35 v36 v37 v38 v39 v40 v41 v42 v43 v44 v45 v46 v47 v48 v49 v50 v51 v52 v53 v54 v55 v56 v57 hg hd K hK
      have d5 : v5 = Value.bool true := hd 5 v5 (by kernel_rfl) rfl
      subst d5
      clear hd
      rw [if_pos (by rw [PUTS]; kernel_rfl)]
      simp only [PUTS, Act.put, List.setIfInBounds_toArray, List.set_cons_zero, List.set_cons_succ] at hK ⊢
      have c0 := hg.cp.cell 0
      have c1 := hg.cp.cell 1
      simp at c0 c1
      go_simp
      exact hK _ _ (Below.refl _ _) rfl hg
    refine Each.consA A hA (fun vs W hl => ?_) ?_
    · apply with58 hl
      clear hl vs
      intro v0 v1 v2 v3 v4 v5 v6 v7 v8 v9 v10 v11 v12 v13 v14 v15 v16 v17 v18 v19 v20 v21 v22 v23 v24 v25 v26 v27 v28 v29 v30 v31 v32 v33 v34 v35 v36 v37 v38 v39 v40 v41 v42 v43 v44 v45 v46 v47 v48 v49 v50 v51 v52 v53 v54 v55 v56 v57 hg hd K hK
      have d5 : v5 = Value.bool true := hd 5 v5 (by kernel_rfl) rfl
      subst d5
      have d6 : v6 = Value.agg #[a, c] := hd 6 v6 (by kernel_rfl) rfl
      subst d6
      clear hd
      rw [if_pos (by rw [PUTS]; kernel_rfl)]
      simp only [PUTS, Act.put, List.setIfInBounds_toArray, List.set_cons_zero, List.set_cons_succ] at hK ⊢
      go_simp
      refine (H16.out _ hg.ea hg.ec).mono ?_
      rintro e w' ⟨rfl, hk⟩
      exact hK _ _ hk rfl (TS.call hg hk)
    refine Each.consA A hA (fun vs W hl => ?_) ?_
    · apply with58 hl
      clear hl vs
      intro v0 v1 v2 v3 v4 v5 v6 v7 v8 v9 v10 v11 v12 v13 v14 v15 v16 v17 v18 v19 v20 v21 v22 v23 v24 v25 v26 v27 v28 v29 v30 v31 v32 v33 v34 v35 v36 v37 v38 v39 v40 v41 v42 v43 v44 v45 v46 v47 v48 v49 v50 v51 v52 v53 v54 v55 v56 v57 hg hd K hK
      have d5 : v5 = Value.bool true := hd 5 v5 (by kernel_rfl) rfl
      subst d5
      clear hd
      rw [if_pos (by rw [PUTS]; kernel_rfl)]
      simp only [PUTS, Act.put, List.setIfInBounds_toArray, List.set_cons_zero, List.set_cons_succ] at hK ⊢
      have c0 := hg.p.cell 0
      have c1 := hg.p.cell 1
      simp at c0 c1
      go_simp
      exact hK _ _ (Below.refl _ _) rfl hg
    refine Each.consA A hA (fun vs W hl => ?_) ?_
    · apply with58 hl
      clear hl vs
      intro v0 v1 v2 v3 v4 v5 v6 v7 v8 v9 v10 v11 v12 v13 v14 v15 v16 v17 v18 v19 v20 v21 v22 v23 v24 v25 v26 v27 v28 v29 v30 v31 v32 v33 v34 v35 v36 v37 v38 v39 v40 v41 v42 v43 v44 v45 v46 v47 v48 v49 v50 v51 v52 v53 v54 v55 v56 v57 hg hd K hK
      have d5 : v5 = Value.bool true := hd 5 v5 (by kernel_rfl) rfl
      subst d5
      have d8 : v8 = Value.agg #[uA, vA] := hd 8 v8 (by kernel_rfl) rfl
      subst d8
      clear hd
      rw [if_pos (by rw [PUTS]; kernel_rfl)]
      simp only [PUTS, Act.put, List.setIfInBounds_toArray, List.set_cons_zero, List.set_cons_succ] at hK ⊢
      go_simp
      refine (H17.out _ hg.bel).mono ?_
      rintro e w' ⟨rfl, hk⟩
      exact hK _ _ hk rfl (TS.call hg hk)
    refine Each.consA A hA (fun vs W hl => ?_) ?_
    · apply with58 hl
      clear hl vs
      intro v0 v1 v2 v3 v4 v5 v6 v7 v8 v9 v10 v11 v12 v13 v14 v15 v16 v17 v18 v19 v20 v21 v22 v23 v24 v25 v26 v27 v28 v29 v30 v31 v32 v33 v34 v35 v36 v37 v38 v39 v40 v41 v42 v43 v44 v45 v46 v47 v48 v49 v50 v51 v52 v53 v54 v55 v56 v57 hg hd K hK
      have d5 : v5 = Value.bool true := hd 5 v5 (by kernel_rfl) rfl
      subst d5
      have d7 : v7 = Value.int IntKind.i64 e0 := hd 7 v7 (by kernel_rfl) rfl
      subst d7
      have d9 : v9 = Value.int IntKind.i64 e0 := hd 9 v9 (by kernel_rfl) rfl
      subst d9
      clear hd
      rw [if_pos (by rw [PUTS]; kernel_rfl)]
      simp only [PUTS, Act.put, List.setIfInBounds_toArray, List.set_cons_zero, List.set_cons_succ] at hK ⊢
      go_simp
      exact hK _ _ (Below.refl _ _) (by first | rfl | simp) hg
    refine Each.consA A hA (fun vs W hl => ?_) ?_
    · apply with58 hl
      clear hl vs
      intro v0 v1 v2 v3 v4 v5 v6 v7 v8 v9 v10 v11 v12 v13 v14 v15 v16 v17 v18 v19 v20 v21 v22 v23 v24 v25 v26 v27 v28 v29 v30 v31 v32 v33 v34 v35 v36 v37 v38 v39 v40 v41 v42 v43 v44 v45 v46 v47 v48 v49 v50 v51 v52 v53 v54 v55 v56 v57 hg hd K hK
      have d5 : v5 = Value.bool true := hd 5 v5 (by kernel_rfl) rfl
      subst d5
      have d10 : v10 = Value.bool true := hd 10 v10 (by kernel_rfl) rfl
      subst d10
      clear hd
      rw [if_pos (by rw [PUTS]; kernel_rfl)]
      simp only [PUTS, Act.put, List.setIfInBounds_toArray, List.set_cons_zero, List.set_cons_succ] at hK ⊢
      go_simp
      exact hK _ _ (Below.refl _ _) (by first | rfl | simp) hg
    refine Each.consA A hA (fun vs W hl => ?_) ?_
    · apply with58 hl
      clear hl vs
      intro v0 v1 v2 v3 v4 v5 v6 v7 v8 v9 v10 v11 v12 v13 v14 v15 v16 v17 v18 v19 v20 v21 v22 v23 v24 v25 v26 v27 v28 v29 v30 v31 v32 v33 v34 v35 v36 v37 v38 v39 v40 v41 v42 v43 v44 v45 v46 v47 v48 v49 v50 v51 v52 v53 v54 v55 v56 v57 hg hd K hK
      have d11 : v11 = Value.bool true := hd 11 v11 (by kernel_rfl) rfl
      subst d11
      clear hd
      rw [if_pos (by rw [PUTS]; kernel_rfl)]
      simp only [PUTS, Act.put, List.setIfInBounds_toArray, List.set_cons_zero, List.set_cons_succ] at hK ⊢
      go_simp
      exact hK _ _ (Below.refl _ _) (by first | rfl | simp) hg
    refine Each.consA A hA (fun vs W hl => ?_) ?_
    · apply with58 hl
      clear hl vs
      intro v0 v1 v2 v3 v4 v5 v6 v7 v8 v9 v10 v11 v12 v13 v14 v15 v16 v17 v18 v19 v20 v21 v22 v23 v24 v25 v26 v27 v28 v29 v30 v31 v32 v33 v34 v35 v36 v37 v38 v39 v40 v41 v42 v43 v44 v45 v46 v47 v48 v49 v50 v51 v52 v53 v54 v55 v56 v57 hg hd K hK
      have d12 : v12 = Value.bool true := hd 12 v12 (by kernel_rfl) rfl
      subst d12
      clear hd
      rw [if_pos (by rw [PUTS]; kernel_rfl)]
      simp only [PUTS, Act.put, List.setIfInBounds_toArray, List.set_cons_zero, List.set_cons_succ] at hK ⊢
      go_simp
      exact hK _ _ (Below.refl _ _) (by first | rfl | simp) hg
    refine Each.consA A hA (fun vs W hl => ?_) ?_
    · apply with58 hl
      clear hl vs
      intro v0 v1 v2 v3 v4 v5 v6 v7 v8 v9 v10 v11 v12 v13 v14 v15 v16 v17 v18 v19 v20 v21 v22 v23 v24 v25 v26 v27 v28 v29 v30 v31 v32 v33 v34 v35 v36 v37 v38 v39 v40 v41 v42 v43 v44 v45 v46 v47 v48 v49 v50 v51 v52 v53 v54 v55 v56 v57 hg hd K hK
      have d12 : v12 = Value.bool true := hd 12 v12 (by kernel_rfl) rfl
      subst d12
      clear hd
      rw [if_pos (by rw [PUTS]; kernel_rfl)]
      simp only [PUTS, Act.put, List.setIfInBounds_toArray, List.set_cons_zero, List.set_cons_succ] at hK ⊢
      go_simp
      exact hK _ _ (Below.refl _ _) (by first | rfl | simp) hg
    refine Each.consA A hA (fun vs W hl => ?_) ?_
    · apply with58 hl
      clear hl vs
      intro v0 v1 v2 v3 v4 v5 v6 v7 v8 v9 v10 v11 v12 v13 v14 v15 v16 v17 v18 v19 v20 v21 v22 v23 v24 v25 v26 v27 v28 v29 v30 v31 v32 v33 v34 v35 v36 v37 v38 v39 v40 v41 v42 v43 v44 v45 v46 v47 v48 v49 v50 v51 v52 v53 v54 v55 v56 v57 hg hd K hK
      have d12 : v12 = Value.bool true := hd 12 v12 (by kernel_rfl) rfl
      subst d12
      have d13 : v13 = Value.string x := hd 13 v13 (by kernel_rfl) rfl
      subst d13
      have d14 : v14 = Value.string x := hd 14 v14 (by kernel_rfl) rfl
      subst d14
      clear hd
      rw [if_pos (by rw [PUTS]; kernel_rfl)]
      simp only [PUTS, Act.put, List.setIfInBounds_toArray, List.set_cons_zero, List.set_cons_succ] at hK ⊢
      go_simp
      exact hK _ _ (Below.refl _ _) (by first | rfl | simp) hg
    refine Each.consA A hA (fun vs W hl => ?_) ?_
    · apply with58 hl
      clear hl vs
      intro v0 v1 v2 v3 v4 v5 v6 v7 v8 v9 v10 v11 v12 v13 v14 v15 v16 v17 v18 v19 v20 v21 v22 v23 v24 v25 v26 v27 v28 v29 v30 v31 v32 v33 v34 v35 v36 v37 v38 v39 v40 v41 v42 v43 v44 v45 v46 v47 v48 v49 v50 v51 v52 v53 v54 v55 v56 v57 hg hd K hK
      have d12 : v12 = Value.bool true := hd 12 v12 (by kernel_rfl) rfl
      subst d12
      have d15 : v15 = Value.bool true := hd 15 v15 (by kernel_rfl) rfl
      subst d15
      clear hd
      rw [if_pos (by rw [PUTS]; kernel_rfl)]
      simp only [PUTS, Act.put, List.setIfInBounds_toArray, List.set_cons_zero, List.set_cons_succ] at hK ⊢
      go_simp
      exact hK _ _ (Below.refl _ _) (by first | rfl | simp) hg
    refine Each.consA A hA (fun vs W hl => ?_) ?_
    · apply with58 hl
      clear hl vs
      intro v0 v1 v2 v3 v4 v5 v6 v7 v8 v9 v10 v11 v12 v13 v14 v15 v16 v17 v18 v19 v20 v21 v22 v23 v24 v25 v26 v27 v28 v29 v30 v31 v32 v33 v34 v35 v36 v37 v38 v39 v40 v41 v42 v43 v44 v45 v46 v47 v48 v49 v50 v51 v52 v53 v54 v55 v56 v57 hg hd K hK
      have d16 : v16 = Value.bool true := hd 16 v16 (by kernel_rfl) rfl
      subst d16
      clear hd
      rw [if_pos (by rw [PUTS]; kernel_rfl)]
      simp only [PUTS, Act.put, List.setIfInBounds_toArray, List.set_cons_zero, List.set_cons_succ] at hK ⊢
      go_simp
      exact hK _ _ (Below.refl _ _) (by first | rfl | simp) hg
    refine Each.consA A hA (fun vs W hl => ?_) ?_
    · apply with58 hl
      clear hl vs
      intro v0 v1 v2 v3 v4 v5 v6 v7 v8 v9 v10 v11 v12 v13 v14 v15 v16 v17 v18 v19 v20 v21 v22 v23 v24 v25 v26 v27 v28 v29 v30 v31 v32 v33 v34 v35 v36 v37 v38 v39 v40 v41 v42 v43 v44 v45 v46 v47 v48 v49 v50 v51 v52 v53 v54 v55 v56 v57 hg hd K hK
      have d17 : v17 = Value.bool true := hd 17 v17 (by kernel_rfl) rfl
      subst d17
      clear hd
      rw [if_pos (by rw [PUTS]; kernel_rfl)]
      simp only [PUTS, Act.put, List.setIfInBounds_toArray, List.set_cons_zero, List.set_cons_succ] at hK ⊢
      go_simp
      exact hK _ _ (Below.refl _ _) (by first | rfl | simp) hg
    refine Each.consA A hA (fun vs W hl => ?_) ?_
    · apply with58 hl
      clear hl vs
      intro v0 v1 v2 v3 v4 v5 v6 v7 v8 v9 v10 v11 v12 v13 v14 v15 v16 v17 v18 v19 v20 v21 v22 v23 v24 v25 v26 v27 v28 v29 v30 v31 v32 v33 v34 v35 v36 v37 v38 v39 v40 v41 v42 v43 v44 v45 v46 v47 v48 v49 v50 v51 v52 v53 v54 v55 v56 v57 hg hd K hK
      have d17 : v17 = Value.bool true := hd 17 v17 (by kernel_rfl) rfl
      subst d17
      clear hd
      rw [if_pos (by rw [PUTS]; kernel_rfl)]
      simp only [PUTS, Act.put, List.setIfInBounds_toArray, List.set_cons_zero, List.set_cons_succ] at hK ⊢
      go_simp
      exact hK _ _ (Below.refl _ _) (by first | rfl | simp) hg
    refine Each.consA A hA (fun vs W hl => ?_) ?_
    · apply with58 hl
      clear hl vs
      intro v0 v1 v2 v3 v4 v5 v6 v7 v8 v9 v10 v11 v12 v13 v14 v15 v16 v17 v18 v19 v20 v21 v22 v23 v24 v25 v26 v27 v28 v29 v30 v31 v32 v33 v34 v35 v36 v37 v38 v39 v40 v41 v42 v43 v44 v45 v46 v47 v48 v49 v50 v51 v52 v53 v54 v55 v56 v57 hg hd K hK
      have d17 : v17 = Value.bool true := hd 17 v17 (by kernel_rfl) rfl
      subst d17
      have d18 : v18 = Value.int IntKind.i64 e0 := hd 18 v18 (by kernel_rfl) rfl
      subst d18
      have d19 : v19 = Value.int IntKind.i64 e0 := hd 19 v19 (by kernel_rfl) rfl
      subst d19
      clear hd
      rw [if_pos (by rw [PUTS]; kernel_rfl)]
      simp only [PUTS, Act.put, List.setIfInBounds_toArray, List.set_cons_zero, List.set_cons_succ] at hK ⊢
      go_simp
      exact hK _ _ (Below.refl _ _) (by first | rfl | simp) hg
    refine Each.consA A hA (fun vs W hl => ?_) ?_
    · apply with58 hl
      clear hl vs
      intro v0 v1 v2 v3 v4 v5 v6 v7 v8 v9 v10 v11 v12 v13 v14 v15 v16 v17 v18 v19 v20 v21 v22 v23 v24 v25 v26 v27 v28 v29 v30 v31 v32 v33 v34 v35 v36 v37 v38 v39 v40 v41 v42 v43 v44 v45 v46 v47 v48 v49 v50 v51 v52 v53 v54 v55 v56 v57 hg hd K hK
      have d17 : v17 = Value.bool true := hd 17 v17 (by kernel_rfl) rfl
      subst d17
      have d20 : v20 = Value.bool true := hd 20 v20 (by kernel_rfl) rfl
      subst d20
      clear hd
      rw [if_pos (by rw [PUTS]; kernel_rfl)]
      simp only [PUTS, Act.put, List.setIfInBounds_toArray, List.set_cons_zero, List.set_cons_succ] at hK ⊢
      go_simp
      exact hK _ _ (Below.refl _ _) (by first | rfl | simp) hg
    refine Each.consA A hA (fun vs W hl => ?_) ?_
    · apply with58 hl
      clear hl vs
      intro v0 v1 v2 v3 v4 v5 v6 v7 v8 v9 v10 v11 v12 v13 v14 v15 v16 v17 v18 v19 v20 v21 v22 v23 v24 v25 v26 v27 v28 v29 v30 v31 v32 v33 v34 v35 v36 v37 v38 v39 v40 v41 v42 v43 v44 v45 v46 v47 v48 v49 v50 v51 v52 v53 v54 v55 v56 v57 hg hd K hK
      have d21 : v21 = Value.bool true := hd 21 v21 (by kernel_rfl) rfl
      subst d21
      clear hd
      rw [if_pos (by rw [PUTS]; kernel_rfl)]
      simp only [PUTS, Act.put, List.setIfInBounds_toArray, List.set_cons_zero, List.set_cons_succ] at hK ⊢
      go_simp
      exact hK _ _ (Below.refl _ _) (by first | rfl | simp) hg
    refine Each.consA A hA (fun vs W hl => ?_) ?_
    · apply with58 hl
      clear hl vs
      intro v0 v1 v2 v3 v4 v5 v6 v7 v8 v9 v10 v11 v12 v13 v14 v15 v16 v17 v18 v19 v20 v21 v22 v23 v24 v25 v26 v27 v28 v29 v30 v31 v32 v33 v34 v35 v36 v37 v38 v39 v40 v41 v42 v43 v44 v45 v46 v47 v48 v49 v50 v51 v52 v53 v54 v55 v56 v57 hg hd K hK
      have d22 : v22 = Value.bool true := hd 22 v22 (by kernel_rfl) rfl
      subst d22
      clear hd
      rw [if_pos (by rw [PUTS]; kernel_rfl)]
      simp only [PUTS, Act.put, List.setIfInBounds_toArray, List.set_cons_zero, List.set_cons_succ] at hK ⊢
      have c0 := hg.cp.cell 0
      have c1 := hg.cp.cell 1
      simp at c0 c1
      go_simp
      exact hK _ _ (Below.refl _ _) rfl hg
    refine Each.consA A hA (fun vs W hl => ?_) ?_
    · apply with58 hl
      clear hl vs
      intro v0 v1 v2 v3 v4 v5 v6 v7 v8 v9 v10 v11 v12 v13 v14 v15 v16 v17 v18 v19 v20 v21 v22 v23 v24 v25 v26 v27 v28 v29 v30 v31 v32 v33 v34 v35 v36 v37 v38 v39 v40 v41 v42 v43 v44 v45 v46 v47 v48 v49 v50 v51 v52 v53 v54 v55 v56 v57 hg hd K hK
      have d22 : v22 = Value.bool true := hd 22 v22 (by kernel_rfl) rfl
      subst d22
      clear hd
      rw [if_pos (by rw [PUTS]; kernel_rfl)]
      simp only [PUTS, Act.put, List.setIfInBounds_toArray, List.set_cons_zero, List.set_cons_succ] at hK ⊢
      go_simp
      exact hK _ _ (Below.refl _ _) (by first | rfl | simp) hg
    refine Each.consA A hA (fun vs W hl => ?_) ?_
    · apply with58 hl
      clear hl vs
      intro v0 v1 v2 v3 v4 v5 v6 v7 v8 v9 v10 v11 v12 v13 v14 v15 v16 v17 v18 v19 v20 v21 v22 v23 v24 v25 v26 v27 v28 v29 v30 v31 v32 v33 v34 v35 v36 v37 v38 v39 v40 v41 v42 v43 v44 v45 v46 v47 v48 v49 v50 v51 v52 v53 v54 v55 v56 v57 hg hd K hK
      have d22 : v22 = Value.bool true := hd 22 v22 (by kernel_rfl) rfl
      subst d22
      have d23 : v23 = Value.agg #[a, c] := hd 23 v23 (by kernel_rfl) rfl
      subst d23
      have d24 : v24 = Value.string n := hd 24 v24 (by kernel_rfl) rfl
      subst d24
      clear hd
      rw [if_pos (by rw [PUTS]; kernel_rfl)]
      simp only [PUTS, Act.put, List.setIfInBounds_toArray, List.set_cons_zero, List.set_cons_succ] at hK ⊢
      go_simp
      refine (H18.out _ hg.ea hg.ec).mono ?_
      rintro e w' ⟨rfl, hk⟩
      exact hK _ _ hk rfl (TS.call hg hk)
    refine Each.consA A hA (fun vs W hl => ?_) ?_
    · apply with58 hl
      clear hl vs
      intro v0 v1 v2 v3 v4 v5 v6 v7 v8 v9 v10 v11 v12 v13 v14 v15 v16 v17 v18 v19 v20 v21 v22 v23 v24 v25 v26 v27 v28 v29 v30 v31 v32 v33 v34 v35 v36 v37 v38 v39 v40 v41 v42 v43 v44 v45 v46 v47 v48 v49 v50 v51 v52 v53 v54 v55 v56 v57 hg hd K hK
      have d22 : v22 = Value.bool true := hd 22 v22 (by kernel_rfl) rfl
      subst d22
      clear hd
      rw [if_pos (by rw [PUTS]; kernel_rfl)]
      simp only [PUTS, Act.put, List.setIfInBounds_toArray, List.set_cons_zero, List.set_cons_succ] at hK ⊢
      have c0 := hg.p.cell 0
      have c1 := hg.p.cell 1
      simp at c0 c1
      go_simp
      exact hK _ _ (Below.refl _ _) rfl hg
    refine Each.consA A hA (fun vs W hl => ?_) ?_
    · apply with58 hl
      clear hl vs
      intro v0 v1 v2 v3 v4 v5 v6 v7 v8 v9 v10 v11 v12 v13 v14 v15 v16 v17 v18 v19 v20 v21 v22 v23 v24 v25 v26 v27 v28 v29 v30 v31 v32 v33 v34 v35 v36 v37 v38 v39 v40 v41 v42 v43 v44 v45 v46 v47 v48 v49 v50 v51 v52 v53 v54 v55 v56 v57 hg hd K hK
      have d22 : v22 = Value.bool true := hd 22 v22 (by kernel_rfl) rfl
      subst d22
      clear hd
      rw [if_pos (by rw [PUTS]; kernel_rfl)]
      simp only [PUTS, Act.put, List.setIfInBounds_toArray, List.set_cons_zero, List.set_cons_succ] at hK ⊢
      go_simp
      exact hK _ _ (Below.refl _ _) (by first | rfl | simp) hg
    refine Each.consA A hA (fun vs W hl => ?_) ?_
    · apply with58 hl
      clear hl vs
      intro v0 v1 v2 v3 v4 v5 v6 v7 v8 v9 v10 v11 v12 v13 v14 v15 v16 v17 v18 v19 v20 v21 v22 v23 v24 v25 v26 v27 v28 v29 v30 v31 v32 v33 v34 v35 v36 v37 v38 v39 v40 v41 v42 v43 v44 v45 v46 v47 v48 v49 v50 v51 v52 v53 v54 v55 v56 v57 hg hd K hK
      have d22 : v22 = Value.bool true := hd 22 v22 (by kernel_rfl) rfl
      subst d22
      have d26 : v26 = Value.agg #[uA, vA] := hd 26 v26 (by kernel_rfl) rfl
      subst d26
      have d27 : v27 = Value.string n := hd 27 v27 (by kernel_rfl) rfl
      subst d27
      clear hd
      rw [if_pos (by rw [PUTS]; kernel_rfl)]
      simp only [PUTS, Act.put, List.setIfInBounds_toArray, List.set_cons_zero, List.set_cons_succ] at hK ⊢
      go_simp
      refine (H19.out _ hg.bel).mono ?_
      rintro e w' ⟨rfl, hk⟩
      exact hK _ _ hk rfl (TS.call hg hk)
    refine Each.consA A hA (fun vs W hl => ?_) ?_
    · apply with58 hl
      clear hl vs
      intro v0 v1 v2 v3 v4 v5 v6 v7 v8 v9 v10 v11 v12 v13 v14 v15 v16 v17 v18 v19 v20 v21 v22 v23 v24 v25 v26 v27 v28 v29 v30 v31 v32 v33 v34 v35 v36 v37 v38 v39 v40 v41 v42 v43 v44 v45 v46 v47 v48 v49 v50 v51 v52 v53 v54 v55 v56 v57 hg hd K hK
      have d22 : v22 = Value.bool true := hd 22 v22 (by kernel_rfl) rfl
      subst d22
      have d25 : v25 = Value.agg #[Value.int IntKind.i64 lx, Value.int IntKind.u32 lp] := hd 25 v25 (by kernel_rfl) rfl
      subst d25
      have d28 : v28 = Value.agg #[Value.int IntKind.i64 lx, Value.int IntKind.u32 lp] := hd 28 v28 (by kernel_rfl) rfl
      subst d28
      clear hd
      rw [if_pos (by rw [PUTS]; kernel_rfl)]
      simp only [PUTS, Act.put, List.setIfInBounds_toArray, List.set_cons_zero, List.set_cons_succ] at hK ⊢
      have e24 := EL.out
      go_simp
      exact hK _ _ (Below.refl _ _) (by first | rfl | simp) hg
    refine Each.consA A hA (fun vs W hl => ?_) ?_
    · apply with58 hl
      clear hl vs
      intro v0 v1 v2 v3 v4 v5 v6 v7 v8 v9 v10 v11 v12 v13 v14 v15 v16 v17 v18 v19 v20 v21 v22 v23 v24 v25 v26 v27 v28 v29 v30 v31 v32 v33 v34 v35 v36 v37 v38 v39 v40 v41 v42 v43 v44 v45 v46 v47 v48 v49 v50 v51 v52 v53 v54 v55 v56 v57 hg hd K hK
      have d22 : v22 = Value.bool true := hd 22 v22 (by kernel_rfl) rfl
      subst d22
      have d29 : v29 = Value.bool true := hd 29 v29 (by kernel_rfl) rfl
      subst d29
      clear hd
      rw [if_pos (by rw [PUTS]; kernel_rfl)]
      simp only [PUTS, Act.put, List.setIfInBounds_toArray, List.set_cons_zero, List.set_cons_succ] at hK ⊢
      go_simp
      exact hK _ _ (Below.refl _ _) (by first | rfl | simp) hg
    refine Each.consA A hA (fun vs W hl => ?_) ?_
    · apply with58 hl
      clear hl vs
      intro v0 v1 v2 v3 v4 v5 v6 v7 v8 v9 v10 v11 v12 v13 v14 v15 v16 v17 v18 v19 v20 v21 v22 v23 v24 v25 v26 v27 v28 v29 v30 v31 v32 v33 v34 v35 v36 v37 v38 v39 v40 v41 v42 v43 v44 v45 v46 v47 v48 v49 v50 v51 v52 v53 v54 v55 v56 v57 hg hd K hK
      have d30 : v30 = Value.bool true := hd 30 v30 (by kernel_rfl) rfl
      subst d30
      clear hd
      rw [if_pos (by rw [PUTS]; kernel_rfl)]
      simp only [PUTS, Act.put, List.setIfInBounds_toArray, List.set_cons_zero, List.set_cons_succ] at hK ⊢
      go_simp
      exact hK _ _ (Below.refl _ _) (by first | rfl | simp) hg
    refine Each.consA A hA (fun vs W hl => ?_) ?_
    · apply with58 hl
      clear hl vs
      intro v0 v1 v2 v3 v4 v5 v6 v7 v8 v9 v10 v11 v12 v13 v14 v15 v16 v17 v18 v19 v20 v21 v22 v23 v24 v25 v26 v27 v28 v29 v30 v31 v32 v33 v34 v35 v36 v37 v38 v39 v40 v41 v42 v43 v44 v45 v46 v47 v48 v49 v50 v51 v52 v53 v54 v55 v56 v57 hg hd K hK
      have d31 : v31 = Value.bool true := hd 31 v31 (by kernel_rfl) rfl
      subst d31
      clear hd
      rw [if_pos (by rw [PUTS]; kernel_rfl)]
      simp only [PUTS, Act.put, List.setIfInBounds_toArray, List.set_cons_zero, List.set_cons_succ] at hK ⊢
      have c0 := hg.d1.cell 0
      have c1 := hg.d1.cell 1
      have c2 := hg.d1.cell 2
      have c3 := hg.d1.cell 3
      have c4 := hg.d1.cell 4
      simp at c0 c1 c2 c3 c4
      go_simp
      exact hK _ _ (Below.refl _ _) rfl hg
    refine Each.consA A hA (fun vs W hl => ?_) ?_
    · apply with58 hl
      clear hl vs
      intro v0 v1 v2 v3 v4 v5 v6 v7 v8 v9 v10 v11 v12 v13 v14 v15 v16 v17 v18 v19 v20 v21 v22 v23 v24 v25 v26 v27 v28 v29 v30 v31 v32 v33 v34 v35 v36 v37 v38 v39 v40 v41 v42 v43 v44 v45 v46 v47 v48 v49 v50 v51 v52 v53 v54 v55 v56 v57 hg hd K hK
      have d31 : v31 = Value.bool true := hd 31 v31 (by kernel_rfl) rfl
      subst d31
      clear hd
      rw [if_pos (by rw [PUTS]; kernel_rfl)]
      simp only [PUTS, Act.put, List.setIfInBounds_toArray, List.set_cons_zero, List.set_cons_succ] at hK ⊢
      have c0 := hg.d2.cell 0
      have c1 := hg.d2.cell 1
      have c2 := hg.d2.cell 2
      have c3 := hg.d2.cell 3
      have c4 := hg.d2.cell 4
      simp at c0 c1 c2 c3 c4
      go_simp
      exact hK _ _ (Below.refl _ _) rfl hg
    refine Each.consA A hA (fun vs W hl => ?_) ?_
    · apply with58 hl
      clear hl vs
      intro v0 v1 v2 v3 v4 v5 v6 v7 v8 v9 v10 v11 v12 v13 v14 v15 v16 v17 v18 v19 v20 v21 v22 v23 v24 v25 v26 v27 v28 v29 v30 v31 v32 v33 v34 v35 v36 v37 v38 v39 v40 v41 v42 v43 v44 v45 v46 v47 v48 v49 v50 v51 v52 v53 v54 v55 v56 v57 hg hd K hK
      have d31 : v31 = Value.bool true := hd 31 v31 (by kernel_rfl) rfl
      subst d31
      have d32 : v32 = Value.agg #[Value.string s5, Value.int IntKind.i64 x5, Value.int IntKind.u32 p5, Value.int IntKind.i64 a5, Value.int IntKind.i64 b5] := hd 32 v32 (by kernel_rfl) rfl
      subst d32
      have d33 : v33 = Value.agg #[Value.string s5, Value.int IntKind.i64 x5, Value.int IntKind.u32 p5, Value.int IntKind.i64 a5, Value.int IntKind.i64 b5] := hd 33 v33 (by kernel_rfl) rfl
      subst d33
      clear hd
      rw [if_pos (by rw [PUTS]; kernel_rfl)]
      simp only [PUTS, Act.put, List.setIfInBounds_toArray, List.set_cons_zero, List.set_cons_succ] at hK ⊢
      have e34 := ER.out
      go_simp
      exact hK _ _ (Below.refl _ _) (by first | rfl | simp) hg
    refine Each.consA A hA (fun vs W hl => ?_) ?_
    · apply with58 hl
      clear hl vs
      intro v0 v1 v2 v3 v4 v5 v6 v7 v8 v9 v10 v11 v12 v13 v14 v15 v16 v17 v18 v19 v20 v21 v22 v23 v24 v25 v26 v27 v28 v29 v30 v31 v32 v33 v34 v35 v36 v37 v38 v39 v40 v41 v42 v43 v44 v45 v46 v47 v48 v49 v50 v51 v52 v53 v54 v55 v56 v57 hg hd K hK
      have d31 : v31 = Value.bool true := hd 31 v31 (by kernel_rfl) rfl
      subst d31
      have d34 : v34 = Value.bool true := hd 34 v34 (by kernel_rfl) rfl
      subst d34
      clear hd
      rw [if_pos (by rw [PUTS]; kernel_rfl)]
      simp only [PUTS, Act.put, List.setIfInBounds_toArray, List.set_cons_zero, List.set_cons_succ] at hK ⊢
      go_simp
      exact hK _ _ (Below.refl _ _) (by first | rfl | simp) hg
    refine Each.consA A hA (fun vs W hl => ?_) ?_
    · apply with58 hl
      clear hl vs
      intro v0 v1 v2 v3 v4 v5 v6 v7 v8 v9 v10 v11 v12 v13 v14 v15 v16 v17 v18 v19 v20 v21 v22 v23 v24 v25 v26 v27 v28 v29 v30 v31 v32 v33 v34 v35 v36 v37 v38 v39 v40 v41 v42 v43 v44 v45 v46 v47 v48 v49 v50 v51 v52 v53 v54 v55 v56 v57 hg hd K hK
      have d35 : v35 = Value.bool true := hd 35 v35 (by kernel_rfl) rfl
      subst d35
      clear hd
      rw [if_pos (by rw [PUTS]; kernel_rfl)]
      simp only [PUTS, Act.put, List.setIfInBounds_toArray, List.set_cons_zero, List.set_cons_succ] at hK ⊢
      go_simp
      exact hK _ _ (Below.refl _ _) (by first | rfl | simp) hg
    refine Each.consA A hA (fun vs W hl => ?_) ?_
    · apply with58 hl
      clear hl vs
      intro v0 v1 v2 v3 v4 v5 v6 v7 v8 v9 v10 v11 v12 v13 v14 v15 v16 v17 v18 v19 v20 v21 v22 v23 v24 v25 v26 v27 v28 v29 v30 v31 v32 v33 v34 v35 v36 v37 v38 v39 v40 v41 v42 v43 v44 v45 v46 v47 v48 v49 v50 v51 v52 v53 v54 v55 v56 v57 hg hd K hK
      have d36 : v36 = Value.bool true := hd 36 v36 (by kernel_rfl) rfl
      subst d36
      clear hd
      rw [if_pos (by rw [PUTS]; kernel_rfl)]
      simp only [PUTS, Act.put, List.setIfInBounds_toArray, List.set_cons_zero, List.set_cons_succ] at hK ⊢
      go_simp
      exact hK _ _ (Below.refl _ _) (by first | rfl | simp) hg
    refine Each.consA A hA (fun vs W hl => ?_) ?_
    · apply with58 hl
      clear hl vs
      intro v0 v1 v2 v3 v4 v5 v6 v7 v8 v9 v10 v11 v12 v13 v14 v15 v16 v17 v18 v19 v20 v21 v22 v23 v24 v25 v26 v27 v28 v29 v30 v31 v32 v33 v34 v35 v36 v37 v38 v39 v40 v41 v42 v43 v44 v45 v46 v47 v48 v49 v50 v51 v52 v53 v54 v55 v56 v57 hg hd K hK
      have d36 : v36 = Value.bool true := hd 36 v36 (by kernel_rfl) rfl
      subst d36
      clear hd
      rw [if_pos (by rw [PUTS]; kernel_rfl)]
      simp only [PUTS, Act.put, List.setIfInBounds_toArray, List.set_cons_zero, List.set_cons_succ] at hK ⊢
      go_simp
      exact hK _ _ (Below.refl _ _) (by first | rfl | simp) hg
    refine Each.consA A hA (fun vs W hl => ?_) ?_
    · apply with58 hl
      clear hl vs
      intro v0 v1 v2 v3 v4 v5 v6 v7 v8 v9 v10 v11 v12 v13 v14 v15 v16 v17 v18 v19 v20 v21 v22 v23 v24 v25 v26 v27 v28 v29 v30 v31 v32 v33 v34 v35 v36 v37 v38 v39 v40 v41 v42 v43 v44 v45 v46 v47 v48 v49 v50 v51 v52 v53 v54 v55 v56 v57 hg hd K hK
      have d36 : v36 = Value.bool true := hd 36 v36 (by kernel_rfl) rfl
      subst d36
      have d37 : v37 = Value.bool b6 := hd 37 v37 (by kernel_rfl) rfl
      subst d37
      have d38 : v38 = Value.bool b6 := hd 38 v38 (by kernel_rfl) rfl
      subst d38
      clear hd
      rw [if_pos (by rw [PUTS]; kernel_rfl)]
      simp only [PUTS, Act.put, List.setIfInBounds_toArray, List.set_cons_zero, List.set_cons_succ] at hK ⊢
      go_simp
      exact hK _ _ (Below.refl _ _) (by first | rfl | simp) hg
    refine Each.consA A hA (fun vs W hl => ?_) ?_
    · apply with58 hl
      clear hl vs
      intro v0 v1 v2 v3 v4 v5 v6 v7 v8 v9 v10 v11 v12 v13 v14 v15 v16 v17 v18 v19 v20 v21 v22 v23 v24 v25 v26 v27 v28 v29 v30 v31 v32 v33 v34 v35 v36 v37 v38 v39 v40 v41 v42 v43 v44 v45 v46 v47 v48 v49 v50 v51 v52 v53 v54 v55 v56 v57 hg hd K hK
      have d36 : v36 = Value.bool true := hd 36 v36 (by kernel_rfl) rfl
      subst d36
      have d39 : v39 = Value.bool true := hd 39 v39 (by kernel_rfl) rfl
      subst d39
      clear hd
      rw [if_pos (by rw [PUTS]; kernel_rfl)]
      simp only [PUTS, Act.put, List.setIfInBounds_toArray, List.set_cons_zero, List.set_cons_succ] at hK ⊢
      go_simp
      exact hK _ _ (Below.refl _ _) (by first | rfl | simp) hg
    refine Each.consA A hA (fun vs W hl => ?_) ?_
    · apply with58 hl
      clear hl vs
      intro v0 v1 v2 v3 v4 v5 v6 v7 v8 v9 v10 v11 v12 v13 v14 v15 v16 v17 v18 v19 v20 v21 v22 v23 v24 v25 v26 v27 v28 v29 v30 v31 v32 v33 v34 v35 v36 v37 v38 v39 v40 v41 v42 v43 v44 v45 v46 v47 v48 v49 v50 v51 v52 v53 v54 v55 v56 v57 hg hd K hK
      have d40 : v40 = Value.bool true := hd 40 v40 (by kernel_rfl) rfl
      subst d40
      clear hd
      rw [if_pos (by rw [PUTS]; kernel_rfl)]
      simp only [PUTS, Act.put, List.setIfInBounds_toArray, List.set_cons_zero, List.set_cons_succ] at hK ⊢
      go_simp
      exact hK _ _ (Below.refl _ _) (by first | rfl | simp) hg
    refine Each.consA A hA (fun vs W hl => ?_) ?_
    · apply with58 hl
      clear hl vs
      intro v0 v1 v2 v3 v4 v5 v6 v7 v8 v9 v10 v11 v12 v13 v14 v15 v16 v17 v18 v19 v20 v21 v22 v23 v24 v25 v26 v27 v28 v29 v30 v31 v32 v33 v34 v35 v36 v37 v38 v39 v40 v41 v42 v43 v44 v45 v46 v47 v48 v49 v50 v51 v52 v53 v54 v55 v56 v57 hg hd K hK
      have d41 : v41 = Value.bool true := hd 41 v41 (by kernel_rfl) rfl
      subst d41
      clear hd
      rw [if_pos (by rw [PUTS]; kernel_rfl)]
      simp only [PUTS, Act.put, List.setIfInBounds_toArray, List.set_cons_zero, List.set_cons_succ] at hK ⊢
      have c0 := hg.cp.cell 0
      have c1 := hg.cp.cell 1
      simp at c0 c1
      go_simp
      exact hK _ _ (Below.refl _ _) rfl hg
    refine Each.consA A hA (fun vs W hl => ?_) ?_
    · apply with58 hl
      clear hl vs
      intro v0 v1 v2 v3 v4 v5 v6 v7 v8 v9 v10 v11 v12 v13 v14 v15 v16 v17 v18 v19 v20 v21 v22 v23 v24 v25 v26 v27 v28 v29 v30 v31 v32 v33 v34 v35 v36 v37 v38 v39 v40 v41 v42 v43 v44 v45 v46 v47 v48 v49 v50 v51 v52 v53 v54 v55 v56 v57 hg hd K hK
      have d41 : v41 = Value.bool true := hd 41 v41 (by kernel_rfl) rfl
      subst d41
      clear hd
      rw [if_pos (by rw [PUTS]; kernel_rfl)]
      simp only [PUTS, Act.put, List.setIfInBounds_toArray, List.set_cons_zero, List.set_cons_succ] at hK ⊢
      have c0 := hg.q.cell 0
      have c1 := hg.q.cell 1
      simp at c0 c1
      go_simp
      exact hK _ _ (Below.refl _ _) rfl hg
    refine Each.consA A hA (fun vs W hl => ?_) ?_
    · apply with58 hl
      clear hl vs
      intro v0 v1 v2 v3 v4 v5 v6 v7 v8 v9 v10 v11 v12 v13 v14 v15 v16 v17 v18 v19 v20 v21 v22 v23 v24 v25 v26 v27 v28 v29 v30 v31 v32 v33 v34 v35 v36 v37 v38 v39 v40 v41 v42 v43 v44 v45 v46 v47 v48 v49 v50 v51 v52 v53 v54 v55 v56 v57 hg hd K hK
      have d41 : v41 = Value.bool true := hd 41 v41 (by kernel_rfl) rfl
      subst d41
      have d42 : v42 = Value.agg #[a, c] := hd 42 v42 (by kernel_rfl) rfl
      subst d42
      have d43 : v43 = Value.agg #[uB, vB] := hd 43 v43 (by kernel_rfl) rfl
      subst d43
      clear hd
      rw [if_pos (by rw [PUTS]; kernel_rfl)]
      simp only [PUTS, Act.put, List.setIfInBounds_toArray, List.set_cons_zero, List.set_cons_succ] at hK ⊢
      go_simp
      refine (H20.out _ hg.ea hg.ec hg.bel).mono ?_
      rintro e w' ⟨rfl, hk⟩
      exact hK _ _ hk rfl (TS.call hg hk)
    refine Each.consA A hA (fun vs W hl => ?_) ?_
    · apply with58 hl
      clear hl vs
      intro v0 v1 v2 v3 v4 v5 v6 v7 v8 v9 v10 v11 v12 v13 v14 v15 v16 v17 v18 v19 v20 v21 v22 v23 v24 v25 v26 v27 v28 v29 v30 v31 v32 v33 v34 v35 v36 v37 v38 v39 v40 v41 v42 v43 v44 v45 v46 v47 v48 v49 v50 v51 v52 v53 v54 v55 v56 v57 hg hd K hK
      have d41 : v41 = Value.bool true := hd 41 v41 (by kernel_rfl) rfl
      subst d41
      clear hd
      rw [if_pos (by rw [PUTS]; kernel_rfl)]
      simp only [PUTS, Act.put, List.setIfInBounds_toArray, List.set_cons_zero, List.set_cons_succ] at hK ⊢
      have c0 := hg.p.cell 0
      have c1 := hg.p.cell 1
      simp at c0 c1
      go_simp
      exact hK _ _ (Below.refl _ _) rfl hg
    refine Each.consA A hA (fun vs W hl => ?_) ?_
    · apply with58 hl
      clear hl vs
      intro v0 v1 v2 v3 v4 v5 v6 v7 v8 v9 v10 v11 v12 v13 v14 v15 v16 v17 v18 v19 v20 v21 v22 v23 v24 v25 v26 v27 v28 v29 v30 v31 v32 v33 v34 v35 v36 v37 v38 v39 v40 v41 v42 v43 v44 v45 v46 v47 v48 v49 v50 v51 v52 v53 v54 v55 v56 v57 hg hd K hK
      have d41 : v41 = Value.bool true := hd 41 v41 (by kernel_rfl) rfl
      subst d41
      clear hd
      rw [if_pos (by rw [PUTS]; kernel_rfl)]
      simp only [PUTS, Act.put, List.setIfInBounds_toArray, List.set_cons_zero, List.set_cons_succ] at hK ⊢
      have c0 := hg.q.cell 0
      have c1 := hg.q.cell 1
      simp at c0 c1
      go_simp
      exact hK _ _ (Below.refl _ _) rfl hg
    refine Each.consA A hA (fun vs W hl => ?_) ?_
    · apply with58 hl
      clear hl vs
      intro v0 v1 v2 v3 v4 v5 v6 v7 v8 v9 v10 v11 v12 v13 v14 v15 v16 v17 v18 v19 v20 v21 v22 v23 v24 v25 v26 v27 v28 v29 v30 v31 v32 v33 v34 v35 v36 v37 v38 v39 v40 v41 v42 v43 v44 v45 v46 v47 v48 v49 v50 v51 v52 v53 v54 v55 v56 v57 hg hd K hK
      have d41 : v41 = Value.bool true := hd 41 v41 (by kernel_rfl) rfl
      subst d41
      have d45 : v45 = Value.agg #[uA, vA] := hd 45 v45 (by kernel_rfl) rfl
      subst d45
      have d46 : v46 = Value.agg #[uB, vB] := hd 46 v46 (by kernel_rfl) rfl
      subst d46
      clear hd
      rw [if_pos (by rw [PUTS]; kernel_rfl)]
      simp only [PUTS, Act.put, List.setIfInBounds_toArray, List.set_cons_zero, List.set_cons_succ] at hK ⊢
      go_simp
      refine (H21.out _ hg.bel).mono ?_
      rintro e w' ⟨rfl, hk⟩
      exact hK _ _ hk rfl (TS.call hg hk)
    refine Each.consA A hA (fun vs W hl => ?_) ?_
    · apply with58 hl
      clear hl vs
      intro v0 v1 v2 v3 v4 v5 v6 v7 v8 v9 v10 v11 v12 v13 v14 v15 v16 v17 v18 v19 v20 v21 v22 v23 v24 v25 v26 v27 v28 v29 v30 v31 v32 v33 v34 v35 v36 v37 v38 v39 v40 v41 v42 v43 v44 v45 v46 v47 v48 v49 v50 v51 v52 v53 v54 v55 v56 v57 hg hd K hK
      have d41 : v41 = Value.bool true := hd 41 v41 (by kernel_rfl) rfl
      subst d41
      have d44 : v44 = Value.bool sm := hd 44 v44 (by kernel_rfl) rfl
      subst d44
      have d47 : v47 = Value.bool sm := hd 47 v47 (by kernel_rfl) rfl
      subst d47
      clear hd
      rw [if_pos (by rw [PUTS]; kernel_rfl)]
      simp only [PUTS, Act.put, List.setIfInBounds_toArray, List.set_cons_zero, List.set_cons_succ] at hK ⊢
      go_simp
      exact hK _ _ (Below.refl _ _) (by first | rfl | simp) hg
    refine Each.consA A hA (fun vs W hl => ?_) ?_
    · apply with58 hl
      clear hl vs
      intro v0 v1 v2 v3 v4 v5 v6 v7 v8 v9 v10 v11 v12 v13 v14 v15 v16 v17 v18 v19 v20 v21 v22 v23 v24 v25 v26 v27 v28 v29 v30 v31 v32 v33 v34 v35 v36 v37 v38 v39 v40 v41 v42 v43 v44 v45 v46 v47 v48 v49 v50 v51 v52 v53 v54 v55 v56 v57 hg hd K hK
      have d41 : v41 = Value.bool true := hd 41 v41 (by kernel_rfl) rfl
      subst d41
      have d48 : v48 = Value.bool true := hd 48 v48 (by kernel_rfl) rfl
      subst d48
      clear hd
      rw [if_pos (by rw [PUTS]; kernel_rfl)]
      simp only [PUTS, Act.put, List.setIfInBounds_toArray, List.set_cons_zero, List.set_cons_succ] at hK ⊢
      go_simp
      exact hK _ _ (Below.refl _ _) (by first | rfl | simp) hg
    refine Each.consA A hA (fun vs W hl => ?_) ?_
    · apply with58 hl
      clear hl vs
      intro v0 v1 v2 v3 v4 v5 v6 v7 v8 v9 v10 v11 v12 v13 v14 v15 v16 v17 v18 v19 v20 v21 v22 v23 v24 v25 v26 v27 v28 v29 v30 v31 v32 v33 v34 v35 v36 v37 v38 v39 v40 v41 v42 v43 v44 v45 v46 v47 v48 v49 v50 v51 v52 v53 v54 v55 v56 v57 hg hd K hK
      have d49 : v49 = Value.bool true := hd 49 v49 (by kernel_rfl) rfl
      subst d49
      clear hd
      rw [if_pos (by rw [PUTS]; kernel_rfl)]
      simp only [PUTS, Act.put, List.setIfInBounds_toArray, List.set_cons_zero, List.set_cons_succ] at hK ⊢
      go_simp
      exact hK _ _ (Below.refl _ _) (by first | rfl | simp) hg
    refine Each.consA A hA (fun vs W hl => ?_) ?_
    · apply with58 hl
      clear hl vs
      intro v0 v1 v2 v3 v4 v5 v6 v7 v8 v9 v10 v11 v12 v13 v14 v15 v16 v17 v18 v19 v20 v21 v22 v23 v24 v25 v26 v27 v28 v29 v30 v31 v32 v33 v34 v35 v36 v37 v38 v39 v40 v41 v42 v43 v44 v45 v46 v47 v48 v49 v50 v51 v52 v53 v54 v55 v56 v57 hg hd K hK
      have d50 : v50 = Value.bool true := hd 50 v50 (by kernel_rfl) rfl
      subst d50
      clear hd
      rw [if_pos (by rw [PUTS]; kernel_rfl)]
      simp only [PUTS, Act.put, List.setIfInBounds_toArray, List.set_cons_zero, List.set_cons_succ] at hK ⊢
      have c0 := hg.cp.cell 0
      have c1 := hg.cp.cell 1
      simp at c0 c1
      go_simp
      exact hK _ _ (Below.refl _ _) rfl hg
    refine Each.consA A hA (fun vs W hl => ?_) ?_
    · apply with58 hl
      clear hl vs
      intro v0 v1 v2 v3 v4 v5 v6 v7 v8 v9 v10 v11 v12 v13 v14 v15 v16 v17 v18 v19 v20 v21 v22 v23 v24 v25 v26 v27 v28 v29 v30 v31 v32 v33 v34 v35 v36 v37 v38 v39 v40 v41 v42 v43 v44 v45 v46 v47 v48 v49 v50 v51 v52 v53 v54 v55 v56 v57 hg hd K hK
      have d50 : v50 = Value.bool true := hd 50 v50 (by kernel_rfl) rfl
      subst d50
      clear hd
      rw [if_pos (by rw [PUTS]; kernel_rfl)]
      simp only [PUTS, Act.put, List.setIfInBounds_toArray, List.set_cons_zero, List.set_cons_succ] at hK ⊢
      have c0 := hg.p.cell 0
      have c1 := hg.p.cell 1
      simp at c0 c1
      go_simp
      exact hK _ _ (Below.refl _ _) rfl hg
    refine Each.consA A hA (fun vs W hl => ?_) ?_
    · apply with58 hl
      clear hl vs
      intro v0 v1 v2 v3 v4 v5 v6 v7 v8 v9 v10 v11 v12 v13 v14 v15 v16 v17 v18 v19 v20 v21 v22 v23 v24 v25 v26 v27 v28 v29 v30 v31 v32 v33 v34 v35 v36 v37 v38 v39 v40 v41 v42 v43 v44 v45 v46 v47 v48 v49 v50 v51 v52 v53 v54 v55 v56 v57 hg hd K hK
      have d50 : v50 = Value.bool true := hd 50 v50 (by kernel_rfl) rfl
      subst d50
      have d51 : v51 = Value.agg #[a, c] := hd 51 v51 (by kernel_rfl) rfl
      subst d51
      have d52 : v52 = Value.agg #[uA, vA] := hd 52 v52 (by kernel_rfl) rfl
      subst d52
      clear hd
      rw [if_pos (by rw [PUTS]; kernel_rfl)]
      simp only [PUTS, Act.put, List.setIfInBounds_toArray, List.set_cons_zero, List.set_cons_succ] at hK ⊢
      go_simp
      refine (H21b.out _ hg.ea hg.ec hg.bel).mono ?_
      rintro e w' ⟨rfl, hk⟩
      exact hK _ _ hk rfl (TS.call hg hk)
    refine Each.consA A hA (fun vs W hl => ?_) ?_
    · apply with58 hl
      clear hl vs
      intro v0 v1 v2 v3 v4 v5 v6 v7 v8 v9 v10 v11 v12 v13 v14 v15 v16 v17 v18 v19 v20 v21 v22 v23 v24 v25 v26 v27 v28 v29 v30 v31 v32 v33 v34 v35 v36 v37 v38 v39 v40 v41 v42 v43 v44 v45 v46 v47 v48 v49 v50 v51 v52 v53 v54 v55 v56 v57 hg hd K hK
      have d50 : v50 = Value.bool true := hd 50 v50 (by kernel_rfl) rfl
      subst d50
      have d53 : v53 = Value.bool true := hd 53 v53 (by kernel_rfl) rfl
      subst d53
      clear hd
      rw [if_pos (by rw [PUTS]; kernel_rfl)]
      simp only [PUTS, Act.put, List.setIfInBounds_toArray, List.set_cons_zero, List.set_cons_succ] at hK ⊢
      go_simp
      exact hK _ _ (Below.refl _ _) (by first | rfl | simp) hg
    refine Each.consA A hA (fun vs W hl => ?_) ?_
    · apply with58 hl
      clear hl vs
      intro v0 v1 v2 v3 v4 v5 v6 v7 v8 v9 v10 v11 v12 v13 v14 v15 v16 v17 v18 v19 v20 v21 v22 v23 v24 v25 v26 v27 v28 v29 v30 v31 v32 v33 v34 v35 v36 v37 v38 v39 v40 v41 v42 v43 v44 v45 v46 v47 v48 v49 v50 v51 v52 v53 v54 v55 v56 v57 hg hd K hK
      have d54 : v54 = Value.bool true := hd 54 v54 (by kernel_rfl) rfl
      subst d54
      clear hd
      rw [if_pos (by rw [PUTS]; kernel_rfl)]
      simp only [PUTS, Act.put, List.setIfInBounds_toArray, List.set_cons_zero, List.set_cons_succ] at hK ⊢
      go_simp
      exact hK _ _ (Below.refl _ _) (by first | rfl | simp) hg
    refine Each.consA A hA (fun vs W hl => ?_) ?_
    · apply with58 hl
      clear hl vs
      intro v0 v1 v2 v3 v4 v5 v6 v7 v8 v9 v10 v11 v12 v13 v14 v15 v16 v17 v18 v19 v20 v21 v22 v23 v24 v25 v26 v27 v28 v29 v30 v31 v32 v33 v34 v35 v36 v37 v38 v39 v40 v41 v42 v43 v44 v45 v46 v47 v48 v49 v50 v51 v52 v53 v54 v55 v56 v57 hg hd K hK
      have d55 : v55 = Value.bool true := hd 55 v55 (by kernel_rfl) rfl
      subst d55
      clear hd
      rw [if_pos (by rw [PUTS]; kernel_rfl)]
      simp only [PUTS, Act.put, List.setIfInBounds_toArray, List.set_cons_zero, List.set_cons_succ] at hK ⊢
      go_simp
      refine (H22.out _ hg.bel).mono ?_
      rintro e w' ⟨rfl, hk⟩
      exact hK _ _ hk rfl (TS.call hg hk)
    refine Each.consA A hA (fun vs W hl => ?_) ?_
    · apply with58 hl
      clear hl vs
      intro v0 v1 v2 v3 v4 v5 v6 v7 v8 v9 v10 v11 v12 v13 v14 v15 v16 v17 v18 v19 v20 v21 v22 v23 v24 v25 v26 v27 v28 v29 v30 v31 v32 v33 v34 v35 v36 v37 v38 v39 v40 v41 v42 v43 v44 v45 v46 v47 v48 v49 v50 v51 v52 v53 v54 v55 v56 v57 hg hd K hK
      have d55 : v55 = Value.bool true := hd 55 v55 (by kernel_rfl) rfl
      subst d55
      have d56 : v56 = Value.bool true := hd 56 v56 (by kernel_rfl) rfl
      subst d56
      clear hd
      rw [if_pos (by rw [PUTS]; kernel_rfl)]
      simp only [PUTS, Act.put, List.setIfInBounds_toArray, List.set_cons_zero, List.set_cons_succ] at hK ⊢
      go_simp
      exact hK _ _ (Below.refl _ _) (by first | rfl | simp) hg
    exact Each.nil
  · intro vs W hl
    apply with58 hl
    clear hl vs
    intro v0 v1 v2 v3 v4 v5 v6 v7 v8 v9 v10 v11 v12 v13 v14 v15 v16 v17 v18 v19 v20 v21 v22 v23 v24 v25 v26 v27 v28 v29 v30 v31 v32 v33 v34 v35 v36 v37 v38 v39 v40 v41 v42 v43 v44 v45 v46 v47 v48 v49 v50 v51 v52 v53 v54 v55 v56 v57 hg hall
    have d0 : v0 = Value.string n := hall 0 v0 rfl
    subst d0
    have d1 : v1 = Value.bool nm := hall 1 v1 rfl
    subst d1
    have d2 : v2 = Value.string n := hall 2 v2 rfl
    subst d2
    have d3 : v3 = Value.bool nm := hall 3 v3 rfl
    subst d3
    have d4 : v4 = Value.bool true := hall 4 v4 rfl
    subst d4
    have d5 : v5 = Value.bool true := hall 5 v5 rfl
    subst d5
    have d6 : v6 = Value.agg #[a, c] := hall 6 v6 rfl
    subst d6
    have d7 : v7 = Value.int IntKind.i64 e0 := hall 7 v7 rfl
    subst d7
    have d8 : v8 = Value.agg #[uA, vA] := hall 8 v8 rfl
    subst d8
    have d9 : v9 = Value.int IntKind.i64 e0 := hall 9 v9 rfl
    subst d9
    have d10 : v10 = Value.bool true := hall 10 v10 rfl
    subst d10
    have d11 : v11 = Value.bool true := hall 11 v11 rfl
    subst d11
    have d12 : v12 = Value.bool true := hall 12 v12 rfl
    subst d12
    have d13 : v13 = Value.string x := hall 13 v13 rfl
    subst d13
    have d14 : v14 = Value.string x := hall 14 v14 rfl
    subst d14
    have d15 : v15 = Value.bool true := hall 15 v15 rfl
    subst d15
    have d16 : v16 = Value.bool true := hall 16 v16 rfl
    subst d16
    have d17 : v17 = Value.bool true := hall 17 v17 rfl
    subst d17
    have d18 : v18 = Value.int IntKind.i64 e0 := hall 18 v18 rfl
    subst d18
    have d19 : v19 = Value.int IntKind.i64 e0 := hall 19 v19 rfl
    subst d19
    have d20 : v20 = Value.bool true := hall 20 v20 rfl
    subst d20
    have d21 : v21 = Value.bool true := hall 21 v21 rfl
    subst d21
    have d22 : v22 = Value.bool true := hall 22 v22 rfl
    subst d22
    have d23 : v23 = Value.agg #[a, c] := hall 23 v23 rfl
    subst d23
    have d24 : v24 = Value.string n := hall 24 v24 rfl
    subst d24
    have d25 : v25 = Value.agg #[Value.int IntKind.i64 lx, Value.int IntKind.u32 lp] := hall 25 v25 rfl
    subst d25
    have d26 : v26 = Value.agg #[uA, vA] := hall 26 v26 rfl
    subst d26
    have d27 : v27 = Value.string n := hall 27 v27 rfl
    subst d27
    have d28 : v28 = Value.agg #[Value.int IntKind.i64 lx, Value.int IntKind.u32 lp] := hall 28 v28 rfl
    subst d28
    have d29 : v29 = Value.bool true := hall 29 v29 rfl
    subst d29
    have d30 : v30 = Value.bool true := hall 30 v30 rfl
    subst d30
    have d31 : v31 = Value.bool true := hall 31 v31 rfl
    subst d31
    have d32 : v32 = Value.agg #[Value.string s5, Value.int IntKind.i64 x5, Value.int IntKind.u32 p5, Value.int IntKind.i64 a5, Value.int IntKind.i64 b5] := hall 32 v32 rfl
    subst d32
    have d33 : v33 = Value.agg #[Value.string s5, Value.int IntKind.i64 x5, Value.int IntKind.u32 p5, Value.int IntKind.i64 a5, Value.int IntKind.i64 b5] := hall 33 v33 rfl
    subst d33
    have d34 : v34 = Value.bool true := hall 34 v34 rfl
    subst d34
    have d35 : v35 = Value.bool true := hall 35 v35 rfl
    subst d35
    have d36 : v36 = Value.bool true := hall 36 v36 rfl
    subst d36
    have d37 : v37 = Value.bool b6 := hall 37 v37 rfl
    subst d37
    have d38 : v38 = Value.bool b6 := hall 38 v38 rfl
    subst d38
    have d39 : v39 = Value.bool true := hall 39 v39 rfl
    subst d39
    have d40 : v40 = Value.bool true := hall 40 v40 rfl
    subst d40
    have d41 : v41 = Value.bool true := hall 41 v41 rfl
    subst d41
    have d42 : v42 = Value.agg #[a, c] := hall 42 v42 rfl
    subst d42
    have d43 : v43 = Value.agg #[uB, vB] := hall 43 v43 rfl
    subst d43
    have d44 : v44 = Value.bool sm := hall 44 v44 rfl
    subst d44
    have d45 : v45 = Value.agg #[uA, vA] := hall 45 v45 rfl
    subst d45
    have d46 : v46 = Value.agg #[uB, vB] := hall 46 v46 rfl
    subst d46
    have d47 : v47 = Value.bool sm := hall 47 v47 rfl
    subst d47
    have d48 : v48 = Value.bool true := hall 48 v48 rfl
    subst d48
    have d49 : v49 = Value.bool true := hall 49 v49 rfl
    subst d49
    have d50 : v50 = Value.bool true := hall 50 v50 rfl
    subst d50
    have d51 : v51 = Value.agg #[a, c] := hall 51 v51 rfl
    subst d51
    have d52 : v52 = Value.agg #[uA, vA] := hall 52 v52 rfl
    subst d52
    have d53 : v53 = Value.bool true := hall 53 v53 rfl
    subst d53
    have d54 : v54 = Value.bool true := hall 54 v54 rfl
    subst d54
    have d55 : v55 = Value.bool true := hall 55 v55 rfl
    subst d55
    have d56 : v56 = Value.bool true := hall 56 v56 rfl
    subst d56
    have d57 : v57 = Value.bool true := hall 57 v57 rfl
    subst d57
    clear hall
    simp only [puts, Act.put, List.setIfInBounds_toArray, List.set_cons_zero, List.set_cons_succ, List.take_succ_cons, List.take_zero, List.drop_succ_cons, List.drop_zero]
    have HB := hd hg.bel
    clear hg
    go_wp2_with fail
    go_ret
    exact VEnd.mk HB.out

end Go.Proofs.YtcigbfjmnhogiaaGreatDoor
