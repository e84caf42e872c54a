/- What a line says of a reader. -/
import Derived.Test.YtcigbfjmnhogiabGreatDoorRl
namespace Go.Proofs.YtcigbfjmnhogiabGreatDoor
open Go.RowKit
set_option linter.unusedVariables false


theorem lenP34' : (Tryz.prog.info? 39).map (·.size) = some 5 := by kernel_rfl
/-- A reader and a truth as results. -/
theorem res_reader {fn : Func} {p u : Tmp} (h : fn.results = #[.cell p 39, .tmp u]) (tmps : Array Value) (w : World) (g : Nat) (cs : Array Value)
    (hp : tmps.getD p undef = .pointer (some ⟨g, 0, none⟩)) (hg : Bk w g 39 cs) (hs : cs.size = 5) :
    (results fn tmps).run Tryz.prog w = .ok (.tuple #[.agg cs, tmps.getD u undef]) w := by
  rw [results_cell_tmp h, hp]
  have e := run_loadVar_row (P := Tryz.prog) w g 39 39 cs (0, 0) _ hg und34 rfl (by rw [hs]; exact lenP34')
  simp only [asAddr, Sem.run_pure, Result.andThen_ok, e]

/-- How reader ends. -/
def RdEnd (w : World) (wb G : Nat) (ps : List ByteArray) (s : ByteArray) (X P : Int) (rt : Bool) (e : Ending) (w' : World) : Prop :=
  ∃ v1 v2 ok1 ok2, e = .returned (.tuple #[.agg #[.string s, .int .i64 X, .int .u32 P, .int .i64 v1, .int .i64 v2], .bool (rt && ok1 && ok2 && okReader (s, X, P, v1, v2))]) ∧
    NumOK (hdW ps.tail.tail).data.toList v1 ok1 ∧ NumOK (hdW ps.tail.tail.tail).data.toList v2 ok2 ∧ Ws w' wb G ps.tail.tail.tail.tail ∧ Kp (fun k => k = wb) w w'

set_option maxRecDepth 100000 in
set_option maxHeartbeats 8000000 in
theorem reader_core {w : World} {wb G : Nat} {ps : List ByteArray} (h : Ws w wb G ps) (X P : Int) (rt : Bool) (h8 : 6 ≤ wb) (hg : Glob w)
    (hc : ∀ w, Ws w wb G ps.tail → Calls Tryz.prog 57 #[.pointer (some ⟨wb, 0, none⟩)] w fun e w' => WdEnd w wb G ps.tail.tail (.tuple #[.agg #[.int .i64 X, .int .u32 P], .bool rt]) e w') :
    Calls Tryz.prog 43 #[.pointer (some ⟨wb, 0, none⟩)] w fun e w' => RdEnd w wb G ps (hdW ps) X P rt e w' := by
  have H := hd h
  have HC := hd hc
  have HGG := hd h.2.1
  have HWG := hd h.1
  have H8 := hd h8
  have HG := hd hg
  clear h hc h8 hg
  obtain ⟨s, hs⟩ : ∃ s, hdW ps = s := ⟨_, rfl⟩
  have HN := hd fun w (h : Ws w wb G ps) => name_ok h
  rw [hs] at HN ⊢
  clear hs
  go_enter Tryz.func43, Tryz.ntmps43
  go_wp2_with fail
  have A1 := Bk.new w 103 #[Value.pointer (some ⟨wb, 0, none⟩)]
  have B1 := below1 w (Obj.cells #[Value.pointer (some ⟨wb, 0, none⟩)] 103)
  obtain ⟨N, hN⟩ : ∃ N, w.heap.size = N := ⟨_, rfl⟩
  have s1 : (w.alloc (Obj.cells #[Value.pointer (some ⟨wb, 0, none⟩)] 103)).heap.size = N + 1 := by simp [hN]
  have R1 := Bk.new (w.alloc (Obj.cells #[Value.pointer (some ⟨wb, 0, none⟩)] 103)) 39 #[Value.string ⟨#[]⟩, Value.int IntKind.i64 0, Value.int IntKind.u32 0, Value.int IntKind.i64 0, Value.int IntKind.i64 0]
  rw [s1] at R1
  rw [hN] at A1
  have A2 := A1.alloc (Obj.cells #[Value.string ⟨#[]⟩, Value.int IntKind.i64 0, Value.int IntKind.u32 0, Value.int IntKind.i64 0, Value.int IntKind.i64 0] 39)
  have B2 := below2 w (Obj.cells #[Value.pointer (some ⟨wb, 0, none⟩)] 103) (Obj.cells #[Value.string ⟨#[]⟩, Value.int IntKind.i64 0, Value.int IntKind.u32 0, Value.int IntKind.i64 0, Value.int IntKind.i64 0] 39)
  generalize (w.alloc (Obj.cells #[Value.pointer (some ⟨wb, 0, none⟩)] 103)).alloc (Obj.cells #[Value.string ⟨#[]⟩, Value.int IntKind.i64 0, Value.int IntKind.u32 0, Value.int IntKind.i64 0, Value.int IntKind.i64 0] 39) = w1 at *
  rw [hN]
  have HNw : Hid (G ≤ N ∧ wb < N ∧ 6 ≤ N) := hd (by have := HGG.out; have := HWG.out; have := H8.out; omega)
  have HNE : Hid (N ≠ wb ∧ N + 1 ≠ wb) := hd (by have := HNw.out; omega)
  have H1 := hd (H.out.below B2)
  have K1 := hd (Kp.below (S := fun k => k = wb) B2)
  have G1 := hd (HG.out.keep B2)
  have HA1 := hd A2
  have HR1 := hd R1
  clear A1 A2 B1 B2 R1 s1
  refine (HN.out w1 H1.out).mono ?_
  rintro e w2 ⟨rfl, h2, k2⟩
  have H2 := hd h2
  have G2 := hd (G1.out.kp (B := 8) k2 (fun i hi => by rw [hi]; exact H8.out) (by have := K1.out.size; have := HNw.out; omega))
  have K2 := hd (K1.out.trans k2)
  have A2 := HA1.out.kp k2 HNE.out.1
  have HA2 := hd A2
  have HR2 := hd (HR1.out.kp k2 HNE.out.2)
  clear h2 k2 H1 K1 G1 HA1 HR1
  have a0 := A2.cell 0
  simp at a0
  clear A2
  go_wp2_with fail
  refine (HC.out w2 H2.out).mono ?_
  rintro e w3 ⟨rfl, h3, k3⟩
  have H3 := hd h3
  have G3 := hd (G2.out.kp (B := 8) k3 (fun i hi => by rw [hi]; exact H8.out) (by have := K2.out.size; have := HNw.out; omega))
  have K3 := hd (K2.out.trans k3)
  have HA3 := hd (HA2.out.kp k3 HNE.out.1)
  have HR3 := hd (HR2.out.kp k3 HNE.out.2)
  clear h3 k3 H2 K2 G2 HA2 HR2 a0
  go_wp2_with fail
  have L3 := hd HR3.out.lt
  have A4 := (HA3.out.alloc (Obj.cells #[Value.int IntKind.i64 X, Value.int IntKind.u32 P] 35)).alloc (Obj.cells #[Value.bool rt] 4)
  have R4 := (HR3.out.alloc (Obj.cells #[Value.int IntKind.i64 X, Value.int IntKind.u32 P] 35)).alloc (Obj.cells #[Value.bool rt] 4)
  have L4 := (Bk.new w3 35 #[Value.int IntKind.i64 X, Value.int IntKind.u32 P]).alloc (Obj.cells #[Value.bool rt] 4)
  have T4 := Bk.new (w3.alloc (Obj.cells #[Value.int IntKind.i64 X, Value.int IntKind.u32 P] 35)) 4 #[Value.bool rt]
  rw [World.size_alloc] at T4
  have B4 := below2 w3 (Obj.cells #[Value.int IntKind.i64 X, Value.int IntKind.u32 P] 35) (Obj.cells #[Value.bool rt] 4)
  have s4 : ((w3.alloc (Obj.cells #[Value.int IntKind.i64 X, Value.int IntKind.u32 P] 35)).alloc (Obj.cells #[Value.bool rt] 4)).heap.size = w3.heap.size + 2 := by simp
  generalize (w3.alloc (Obj.cells #[Value.int IntKind.i64 X, Value.int IntKind.u32 P] 35)).alloc (Obj.cells #[Value.bool rt] 4) = w4 at *
  have H4 := hd (H3.out.below B4)
  have G4 := hd (G3.out.keep B4)
  have K4 := hd (K3.out.trans (Kp.below B4))
  obtain ⟨lb, hlb⟩ : ∃ lb, w3.heap.size = lb := ⟨_, rfl⟩
  rw [hlb] at L4 T4 s4 L3 ⊢
  have HLB : Hid (N + 1 < lb) := hd L3.out
  have HA4 := hd A4
  have HR4 := hd R4
  have HL4 := hd L4
  have HT4 := hd T4
  have HS4 := hd s4
  clear A4 R4 L4 T4 B4 s4 H3 G3 K3 HA3 HR3 L3 hlb
  refine (number_ok H4.out HA4.out HT4.out (by have := HNw.out; have := HLB.out; omega) H8.out G4.out).mono ?_
  rintro e w5 ⟨v1, ok1, rfl, hn1, h5, t5, k5⟩
  have NE : Hid (∀ i, (i = wb ∨ i = lb + 1) → i ≠ N ∧ i ≠ N + 1 ∧ i ≠ lb ∧ 6 ≤ i) := hd fun i hi => by
    have := HNw.out
    have := HLB.out
    have := H8.out
    omega
  have HN1 := hd hn1
  have H5 := hd h5
  have G5 := hd (G4.out.kp (B := 8) k5 (fun i hi => (NE.out i hi).2.2.2) (by have := HS4.out; have := HLB.out; have := HNw.out; omega))
  have K5 := hd (K4.out.then k5 (fun i hi he => by rcases he with he | he; exact he; have := HLB.out; have := hN; omega))
  have A5 := HA4.out.kp k5 (fun he => (NE.out _ he).1 rfl)
  have HA5 := hd A5
  have HR5 := hd (HR4.out.kp k5 (fun he => (NE.out _ he).2.1 rfl))
  have HL5 := hd (HL4.out.kp k5 (fun he => (NE.out _ he).2.2.1 rfl))
  have HT5 := hd t5
  have HS5 : Hid (lb + 2 ≤ w5.heap.size) := hd (by have := k5.size; have := HS4.out; omega)
  clear hn1 h5 t5 k5 A5 H4 G4 K4 HA4 HR4 HL4 HT4 HS4
  go_wp2_with fail
  refine (number_ok H5.out HA5.out HT5.out (by have := HNw.out; have := HLB.out; omega) H8.out G5.out).mono ?_
  rintro e w6 ⟨v2, ok2, rfl, hn2, h6, t6, k6⟩
  have HN2 := hd hn2
  have H6 := hd h6
  have K6 := hd (K5.out.then k6 (fun i hi he => by rcases he with he | he; exact he; have := HLB.out; have := hN; omega))
  have HR6 := hd (HR5.out.kp k6 (fun he => (NE.out _ he).2.1 rfl))
  have L6 := HL5.out.kp k6 (fun he => (NE.out _ he).2.2.1 rfl)
  have HT6 := hd t6
  have HS6 : Hid (lb + 2 ≤ w6.heap.size) := hd (by have := k6.size; have := HS5.out; omega)
  clear hn2 h6 t6 k6 H5 G5 K5 HA5 HR5 HL5 HT5 HS5 NE
  have l0 := L6.cell 0
  have l1 := L6.cell 1
  simp at l0 l1
  clear L6
  go_wp2_with fail
  have A7 := HR6.out.alloc (Obj.cells #[Value.string s, Value.int IntKind.i64 X, Value.int IntKind.u32 P, Value.int IntKind.i64 v1, Value.int IntKind.i64 v2] 39)
  have R7 := Bk.new w6 39 #[Value.string s, Value.int IntKind.i64 X, Value.int IntKind.u32 P, Value.int IntKind.i64 v1, Value.int IntKind.i64 v2]
  have T7 := HT6.out.alloc (Obj.cells #[Value.string s, Value.int IntKind.i64 X, Value.int IntKind.u32 P, Value.int IntKind.i64 v1, Value.int IntKind.i64 v2] 39)
  have K7 := hd (K6.out.trans (Kp.below (below1 w6 (Obj.cells #[Value.string s, Value.int IntKind.i64 X, Value.int IntKind.u32 P, Value.int IntKind.i64 v1, Value.int IntKind.i64 v2] 39))))
  have H7 := hd (H6.out.below (below1 w6 (Obj.cells #[Value.string s, Value.int IntKind.i64 X, Value.int IntKind.u32 P, Value.int IntKind.i64 v1, Value.int IntKind.i64 v2] 39)))
  generalize w6.alloc (Obj.cells #[Value.string s, Value.int IntKind.i64 X, Value.int IntKind.u32 P, Value.int IntKind.i64 v1, Value.int IntKind.i64 v2] 39) = W at *
  have HRN : Hid (N + 1 ≠ w6.heap.size) := hd (by have := HS6.out; have := HLB.out; omega)
  generalize w6.heap.size = rb at *
  have HA := hd A7
  have HR := hd R7
  have HT := hd T7
  clear A7 R7 T7 H6 K6 HR6 HT6 HS6 l0 l1
  have r0 := HR.out.cell 0
  have r1 := HR.out.cell 1
  have r2 := HR.out.cell 2
  have r3 := HR.out.cell 3
  have r4 := HR.out.cell 4
  have t0 := HT.out.cell 0
  simp at r0 r1 r2 r3 r4 t0
  obtain ⟨rr, hrr⟩ : ∃ rr, (rt && ok1 && ok2) = rr := ⟨_, rfl⟩
  have HRR := hd hrr
  rw [hrr] at t0
  clear hrr
  cases rr
  · have n0 := HA.out.cell 0
    have n1 := HA.out.cell 1
    have n2 := HA.out.cell 2
    have n3 := HA.out.cell 3
    have n4 := HA.out.cell 4
    simp at n0 n1 n2 n3 n4
    have f0 := HA.out.fz 0
    have f1 := HA.out.fz 1
    have f2 := HA.out.fz 2
    have f3 := HA.out.fz 3
    have f4 := HA.out.fz 4
    go_region
    all_goals
      go_wp2_with fail
      refine bodyPost_ret (res_reader rfl _ _ (N + 1) _ rfl (((((HA.out.drew.set 0 _).set 1 _).set 2 _).set 3 _).set 4 _) rfl) rfl ?_
      have hb := below_setCell (below_setCell (below_setCell (below_setCell (below_setCell (Below.refl G W.drew) ⟨N + 1, 0, none⟩ (.string s) (by have := HNw.out; simp; omega)) ⟨N + 1, 1, none⟩ (.int .i64 X) (by have := HNw.out; simp; omega)) ⟨N + 1, 2, none⟩ (.int .u32 P) (by have := HNw.out; simp; omega)) ⟨N + 1, 3, none⟩ (.int .i64 v1) (by have := HNw.out; simp; omega)) ⟨N + 1, 4, none⟩ (.int .i64 v2) (by have := HNw.out; simp; omega)
      have hw : Below G W W.drew := (Below.refl G W).drew
      refine ⟨v1, v2, ok1, ok2, by rw [HRR.out]; rfl, HN1.out, HN2.out, H7.out.belowG (hw.trans hb), ((((((K7.out.trans (Kp.below (Below.refl _ W).drew)).set _ _ (fun h => absurd h (by simp; omega))).set _ _ (fun h => absurd h (by simp; omega))).set _ _ (fun h => absurd h (by simp; omega))).set _ _ (fun h => absurd h (by simp; omega))).set _ _ (fun h => absurd h (by simp; omega)))⟩
  · obtain ⟨q, hq⟩ : ∃ q, okReader (s, X, P, v1, v2) = q := ⟨_, rfl⟩
    have HQ := hd hq
    have HBR : Hid (∀ w, Calls Tryz.prog 30 #[.agg #[.string s, .int .i64 X, .int .u32 P, .int .i64 v1, .int .i64 v2]] w fun e w' => VEnd w (.bool (!q)) e w') := hd fun w => by
      have h := badReader_any s X P v1 v2 w
      rwa [hq] at h
    clear hq
    have hne : N + 1 ≠ rb := HRN.out
    have hne2 : rb ≠ N + 1 := fun e => hne e.symm
    have hne3 : ¬ lb = N := by have := HLB.out; omega
    have hne4 : ¬ N = lb := by have := HLB.out; omega
    go_region_held3 (fun W => W.cell? ⟨rb, 0, none⟩ = some (.string s) ∧ W.cell? ⟨rb, 1, none⟩ = some (.int .i64 X) ∧ W.cell? ⟨rb, 2, none⟩ = some (.int .u32 P) ∧ W.cell? ⟨rb, 3, none⟩ = some (.int .i64 v1) ∧ W.cell? ⟨rb, 4, none⟩ = some (.int .i64 v2) ∧ W.cell? ⟨lb + 1, 0, none⟩ = some (.bool true)) (first | exact ⟨by with_reducible assumption, by with_reducible assumption, by with_reducible assumption, by with_reducible assumption, by with_reducible assumption, by with_reducible assumption⟩ | go_keep) (first | (go_at_call 30; refine (HBR.out _).mono ?_; rintro e w8 ⟨rfl, hk⟩; have A5 := HA.out.drew.keep hk; have n0 := A5.cell 0; have n1 := A5.cell 1; have n2 := A5.cell 2; have n3 := A5.cell 3; have n4 := A5.cell 4; simp at n0 n1 n2 n3 n4; have f0 := A5.fz 0; have f1 := A5.fz 1; have f2 := A5.fz 2; have f3 := A5.fz 3; have f4 := A5.fz 4; have R5 := HR.out.drew.keep hk; have s0 := R5.cell 0; have s1 := R5.cell 1; have s2 := R5.cell 2; have s3 := R5.cell 3; have s4 := R5.cell 4; simp at s0 s1 s2 s3 s4; have u1 := (HT.out.drew.keep hk).cell 0; rw [HRR.out] at u1; have u0 : w8.cell? ⟨lb + 1, 0, none⟩ = some (.bool true) := u1; clear u1; have HK5 := hd hk; have HA5 := hd A5; clear A5 R5 hk) | fail)
    go_wp2_with fail
    refine bodyPost_ret (res_reader rfl _ _ (N + 1) _ rfl (((((HA5.out.set 0 _).set 1 _).set 2 _).set 3 _).set 4 _) rfl) rfl ?_
    have hb := below_setCell (below_setCell (below_setCell (below_setCell (below_setCell (Below.refl G w8) ⟨N + 1, 0, none⟩ (.string s) (by have := HNw.out; simp; omega)) ⟨N + 1, 1, none⟩ (.int .i64 X) (by have := HNw.out; simp; omega)) ⟨N + 1, 2, none⟩ (.int .u32 P) (by have := HNw.out; simp; omega)) ⟨N + 1, 3, none⟩ (.int .i64 v1) (by have := HNw.out; simp; omega)) ⟨N + 1, 4, none⟩ (.int .i64 v2) (by have := HNw.out; simp; omega)
    have hw : Below W.heap.size W w8 := below_below (Below.refl _ W).drew HK5.out
    refine ⟨v1, v2, ok1, ok2, by rw [HRR.out, HQ.out]; rfl, HN1.out, HN2.out, (H7.out.below hw).belowG hb, ((((((K7.out.trans (Kp.below hw)).set _ _ (fun h => absurd h (by simp; omega))).set _ _ (fun h => absurd h (by simp; omega))).set _ _ (fun h => absurd h (by simp; omega))).set _ _ (fun h => absurd h (by simp; omega))).set _ _ (fun h => absurd h (by simp; omega)))⟩

end Go.Proofs.YtcigbfjmnhogiabGreatDoor
