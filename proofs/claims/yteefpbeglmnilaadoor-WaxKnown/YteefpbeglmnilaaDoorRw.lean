/- H and K, as rows makes them. -/
import Derived.Test.YteefpbeglmnilaaDoorPr
import Derived.Deep.RegionHeld3
namespace Go.Proofs.YteefpbeglmnilaaDoor
open Go.RowKit
set_option linter.unusedVariables false

namespace Sha
/-- The roots of the first primes. -/
def hw (i : Nat) : BitVec 32 := BitVec.ofNat 32 (lo sq ((ps 310).getD i 0) 35)
def kw (i : Nat) : BitVec 32 := BitVec.ofNat 32 (lo cu ((ps 310).getD i 0) 35)
/-- The first k words of a row, then words 0. -/
def uw (l : List (BitVec 32)) (k : Nat) : List (BitVec 32) := l.take k ++ List.replicate (l.length - k) 0#32
end Sha

theorem hw_all : ∀ i : Fin 8, Sha.hw i.val = Sha.at_ Sha.H.list i.val := by decide +kernel
theorem kw_all : ∀ i : Fin 64, Sha.kw i.val = Sha.at_ Sha.K i.val := by decide +kernel
theorem K_len : Sha.K.length = 64 := rfl

theorem uw_len (l : List (BitVec 32)) (k : Nat) : (Sha.uw l k).length = l.length := by
  unfold Sha.uw; simp; omega
theorem uw_set (l : List (BitVec 32)) (k : Nat) (hk : k < l.length) : (Sha.uw l k).set k (Sha.at_ l k) = Sha.uw l (k + 1) := by
  unfold Sha.uw Sha.at_
  rw [List.set_append_right _ _ (by rw [List.length_take]; omega), List.length_take, show k - min k l.length = 0 by omega, show l.length - k = (l.length - (k + 1)) + 1 by omega, List.replicate_succ, List.set_cons_zero]
  rw [List.take_succ_eq_append_getElem (by omega), List.append_assoc, List.getD_eq_getElem?_getD, List.getElem?_eq_getElem (by omega)]
  rfl
theorem uw_all (l : List (BitVec 32)) (k : Nat) (hk : l.length ≤ k) : Sha.uw l k = l := by
  unfold Sha.uw; rw [List.take_of_length_le hk, Nat.sub_eq_zero_of_le hk]; simp

structure RwW (w wr : World) (k : Nat) : Prop where
  bel : Below w.heap.size w wr
  r0 : Row wr w.heap.size 63 (ws (List.replicate 8 0#32))
  r1 : Row wr (w.heap.size + 1) 65 (ws (List.replicate 64 0#32))
  h : Row wr (w.heap.size + 2) 63 (ws (Sha.uw Sha.H.list k))
  k : Row wr (w.heap.size + 3) 65 (ws (Sha.uw Sha.K k))
  b0 : Row wr (w.heap.size + 4) 88 [.func (.func 46) #[] #[]]
  b1 : Row wr (w.heap.size + 5) 88 [.func (.func 47) #[] #[]]

theorem RwW.both {w wr : World} {k : Nat} (h : RwW w wr k) (hk : k < 8) :
    RwW w ((wr.setCell ⟨w.heap.size + 2, k, none⟩ (.int .u32 ((Sha.hw k).toNat : Int))).setCell ⟨w.heap.size + 3, k, none⟩ (.int .u32 ((Sha.kw k).toNat : Int))) (k + 1) := by
  refine ⟨below_setCell (below_setCell h.bel _ _ (by show w.heap.size ≤ w.heap.size + 2; omega)) _ _ (by show w.heap.size ≤ w.heap.size + 3; omega), (h.r0.other _ _ (by simp)).other _ _ (by simp), (h.r1.other _ _ (by simp)).other _ _ (by simp), ?_, ?_, (h.b0.other _ _ (by simp)).other _ _ (by simp), (h.b1.other _ _ (by simp)).other _ _ (by simp)⟩
  · rw [← uw_set Sha.H.list k hk, ← ws_set, ← hw_all ⟨k, hk⟩]
    exact (h.h.set k _).other _ _ (by simp)
  · rw [← uw_set Sha.K k (by rw [K_len]; omega), ← ws_set, ← kw_all ⟨k, by omega⟩]
    exact (h.k.other _ _ (by simp)).set k _
theorem RwW.one {w wr : World} {k : Nat} (h : RwW w wr k) (hk : 8 ≤ k) (hk2 : k < 64) :
    RwW w (wr.setCell ⟨w.heap.size + 3, k, none⟩ (.int .u32 ((Sha.kw k).toNat : Int))) (k + 1) := by
  refine ⟨below_setCell h.bel _ _ (by show w.heap.size ≤ w.heap.size + 3; omega), h.r0.other _ _ (by simp), h.r1.other _ _ (by simp), ?_, ?_, h.b0.other _ _ (by simp), h.b1.other _ _ (by simp)⟩
  · have e := h.h
    rw [uw_all Sha.H.list k hk] at e
    rw [uw_all Sha.H.list (k + 1) (Nat.le_succ_of_le hk)]
    exact e.other _ _ (by simp)
  · rw [← uw_set Sha.K k (by rw [K_len]; omega), ← ws_set, ← kw_all ⟨k, by omega⟩]
    exact h.k.set k _

theorem hw_toNat (i : Nat) : ((Sha.hw i).toNat : Int) = ((Sha.lo Sha.sq ((Sha.ps 310).getD i 0) 35 % 4294967296 : Nat) : Int) := by
  unfold Sha.hw; rw [BitVec.toNat_ofNat]
theorem kw_toNat (i : Nat) : ((Sha.kw i).toNat : Int) = ((Sha.lo Sha.cu ((Sha.ps 310).getD i 0) 35 % 4294967296 : Nat) : Int) := by
  unfold Sha.kw; rw [BitVec.toNat_ofNat]

theorem und43 : Tryd.prog.underlying 63 = some (.array 8 61) := by kernel_rfl
theorem info43 : (Tryd.prog.info? 63).map (·.size) = some 8 := by kernel_rfl

/-- A load of a whole row, a store of one, as steps of a region that draws its order. -/
theorem yields_row {P : Program} {ops : Array Oper} {S : World → Prop} {op : Oper} {a : Act} (hw : Region.wanted op (yielded ops a.tmps) = true) (ty : TypeId) (x : Operand) (ho : op.op = .load ty x)
    (g : Nat) (hx : a.eval x = .pointer (some ⟨g, 0, none⟩)) (t : TypeId) (vs : List Value) (d : TypeDesc) (hS : ∀ w, S w → Row w g t vs)
    (hu : P.underlying ty = some d) (hd : (match d with | .struct _ | .array _ _ => true | _ => false) = true) (hi : (P.info? ty).map (·.size) = some vs.length) : YieldsIf P ops S op (.agg vs.toArray) a :=
  .inl ⟨hw, fun w hw' => by
    have h := run_loadVar_row (P := P) w g t ty vs.toArray (0, 0) d (hS w hw') hu hd (by rw [List.size_toArray]; exact hi)
    unfold execOp
    simp only [ho, hx, Instr.loadAt, Instr.sureAddr, Sem.run_bind, Sem.run_pure, Result.andThen_ok, h]⟩
theorem step_store_row {P : Program} {ops : Array Oper} {o : Oper} {a : Act} {w : World} {K : Act → World → Prop} {Q : Exit → Act → World → Prop} {E : Prop}
    (hgd : o.guard = none) (ty : TypeId) (x y : Operand) (ho : o.op = .store ty x y) (g : Nat) (vs : List Value) (hx : a.eval x = .pointer (some ⟨g, 0, none⟩)) (hy : a.eval y = .agg vs.toArray) (t : TypeId) (n : Nat) (hg : ∃ us, us.length = n ∧ Row w g t us)
    (hl : vs.length = n) (hi : (P.info? ty).map (·.size) = some n) (h1 : vs.toArray.all (·.oneCell') = true)
    (hK : K (a.put o.dst undef) (w.setRow g vs.toArray)) : if Region.wanted o (yielded ops a.tmps) = true then Oper.wp P o a w K Q else E := by
  have hw : Region.wanted o (yielded ops a.tmps) = true := by simp [Region.wanted, hgd]
  rw [if_pos hw]
  obtain ⟨us, hus, hr⟩ := hg
  exact wp_store_row ty x y ho g vs.toArray hx hy t us.toArray hr (by rw [List.size_toArray, hl]; exact hi) (by rw [List.size_toArray, List.size_toArray, hus, hl]) h1 hK

theorem results_two_rows {P : Program} {fn : Func} {p q : Tmp} {ty tz : TypeId} (h : fn.results = #[.cell p ty, .cell q tz]) (tmps : Array Value) (w : World) (a b : Addr) (v u : Value)
    (hp : tmps.getD p undef = .pointer (some a)) (hq : tmps.getD q undef = .pointer (some b)) (r0 : (loadVar ty a).run P w = .ok v w) (r1 : (loadVar tz b).run P w = .ok u w) :
    (results fn tmps).run P w = .ok (.tuple #[v, u]) w := by
  have hp' : tmps[p]?.getD undef = .pointer (some a) := by simpa using hp
  have hq' : tmps[q]?.getD undef = .pointer (some b) := by simpa using hq
  simp [results, h, hp', hq', asAddr, r0, r1]

structure RwE (N : Nat) (hl kl : List Value) (W : World) : Prop where
  h : Row W (N + 2) 63 hl
  k : Row W (N + 3) 65 kl
  r0 : ∃ us, us.length = 8 ∧ Row W N 63 us
  r1 : ∃ us, us.length = 64 ∧ Row W (N + 1) 65 us
theorem RwE.drew {N : Nat} {hl kl : List Value} {W : World} (h : RwE N hl kl W) : RwE N hl kl W.drew := ⟨h.h, h.k, h.r0, h.r1⟩
theorem RwE.drewN {N : Nat} {hl kl : List Value} {W : World} (h : RwE N hl kl W) (n : Nat) : RwE N hl kl (W.drewN n) := ⟨h.h, h.k, h.r0, h.r1⟩
theorem RwE.put0 {N : Nat} {hl kl : List Value} {W : World} (h : RwE N hl kl W) (hn : hl.length = 8) : RwE N hl kl (W.setRow N hl.toArray) := by
  obtain ⟨us, _, hr⟩ := h.r0
  obtain ⟨us', hl', hr'⟩ := h.r1
  exact ⟨h.h.putOther (by omega), h.k.putOther (by omega), ⟨hl, hn, hr.put⟩, ⟨us', hl', hr'.putOther (by omega)⟩⟩
theorem RwE.put1 {N : Nat} {hl kl : List Value} {W : World} (h : RwE N hl kl W) (hn : kl.length = 64) : RwE N hl kl (W.setRow (N + 1) kl.toArray) := by
  obtain ⟨us, hl', hr⟩ := h.r0
  obtain ⟨us', _, hr'⟩ := h.r1
  exact ⟨h.h.putOther (by omega), h.k.putOther (by omega), ⟨us, hl', hr.putOther (by omega)⟩, ⟨kl, hn, hr'.put⟩⟩

set_option maxRecDepth 100000 in
set_option maxHeartbeats 1000000 in
theorem rows_ok (w : World) :
    Calls Tryd.prog 31 #[] w fun e w' => e = .returned (.tuple #[.agg (ws Sha.H.list).toArray, .agg (ws Sha.K).toArray]) ∧ Below w.heap.size w w' := by
  go_enter Tryd.func31, Tryd.ntmps31
  go_wp2_with fail
  generalize hw0 : World.alloc (World.alloc (World.alloc (World.alloc w _) _) _) _ = w0
  have z0 : w0.heap.size = w.heap.size + 4 := by subst hw0; simp
  have S0 : Hid (RwW w ((w0.alloc (.cells #[.func (.func 46) #[] #[]] 88)).alloc (.cells #[.func (.func 47) #[] #[]] 88)) 0) := by
    have a1 := Row.new w 63 (ws (List.replicate 8 0#32))
    have a2 := Row.new (World.alloc w (.cells (ws (List.replicate 8 0#32)).toArray 63)) 65 (ws (List.replicate 64 0#32))
    have a3 := Row.new (World.alloc (World.alloc w (.cells (ws (List.replicate 8 0#32)).toArray 63)) (.cells (ws (List.replicate 64 0#32)).toArray 65)) 63 (ws (List.replicate 8 0#32))
    have a4 := Row.new (World.alloc (World.alloc (World.alloc w (.cells (ws (List.replicate 8 0#32)).toArray 63)) (.cells (ws (List.replicate 64 0#32)).toArray 65)) (.cells (ws (List.replicate 8 0#32)).toArray 63)) 65 (ws (List.replicate 64 0#32))
    have a5 := Row.new w0 88 [.func (.func 46) #[] #[]]
    have a6 := Row.new (w0.alloc (.cells #[.func (.func 46) #[] #[]] 88)) 88 [.func (.func 47) #[] #[]]
    have b : Below w.heap.size w w0 := by
      subst hw0
      exact ((((Below.refl _ _).alloc (Nat.le_refl _) _).alloc (by simp) _).alloc (by simp; omega) _).alloc (by simp; omega) _
    simp only [World.size_alloc] at a2 a3 a4 a6
    rw [z0] at a5 a6
    refine ⟨(b.alloc (by omega) _).alloc (by simp; omega) _, ?_, ?_, ?_, ?_, a5.alloc _, a6⟩
    all_goals subst hw0
    · exact ((((a1.alloc _).alloc _).alloc _).alloc _).alloc _
    · exact (((a2.alloc _).alloc _).alloc _).alloc _
    · exact ((a3.alloc _).alloc _).alloc _
    · exact (a4.alloc _).alloc _
  clear hw0
  refine (root_ok 46 w0).mono ?_
  rintro e w1 ⟨rfl, rfl⟩
  go_wp2_with fail
  refine (root_ok 47 _).mono ?_
  rintro e w2 ⟨rfl, rfl⟩
  rw [World.size_alloc, z0]
  generalize (w0.alloc (.cells #[.func (.func 46) #[] #[]] 88)).alloc (.cells #[.func (.func 47) #[] #[]] 88) = w2 at S0
  clear z0 w0
  go_wp2_with fail
  refine (primes_ok w2).mono ?_
  rintro e w3 ⟨rfl, hb⟩
  have S3 : Hid (RwW w w3 0) := ⟨below_below S0.out.bel hb, S0.out.r0.keep hb S0.out.r0.lt, S0.out.r1.keep hb S0.out.r1.lt, S0.out.h.keep hb S0.out.h.lt, S0.out.k.keep hb S0.out.k.lt, S0.out.b0.keep hb S0.out.b0.lt, S0.out.b1.keep hb S0.out.b1.lt⟩
  clear hb S0
  have PV : Hid (∀ i, i < 64 → (Sha.pv (Sha.ps 310)).toArray[i]? = some (.int .u64 (((Sha.ps 310).getD i 0 : Nat) : Int))) := fun i hi => by
    rw [List.getElem?_toArray]
    exact pv_get (Sha.ps 310) i (by rw [ps_310]; exact hi)
  have PB : Hid (∀ i, i < 64 → (Sha.ps 310).getD i 0 < 400) := fun i hi => by
    have hl : i < (Sha.ps 310).length := by rw [ps_310]; exact hi
    refine (ps_in ⟨310, by decide⟩ _ ?_).2
    rw [List.getD_eq_getElem?_getD, List.getElem?_eq_getElem hl]
    exact List.getElem_mem hl
  have HT := hd hw_toNat
  have KT := hd kw_toNat
  generalize Sha.ps 310 = pl at PV PB HT KT
  generalize (Sha.pv pl).toArray = pa at PV
  go_wp2_with fail
  rw [show w.heap.size + 1 + 1 + 1 = w.heap.size + 3 from rfl, show w.heap.size + 1 + 1 = w.heap.size + 2 from rfl]
  go_loopw [11] (fun i wr => ∃ k : Nat, k ≤ 64 ∧ i = .int .i64 (k : Int) ∧ RwW w wr k) (fun i _ => 64 - (intOf i).toNat)
  case atStart => exact ⟨0, Nat.zero_le _, rfl, S3.out⟩
  case round =>
    clear S3 w3 w2
    obtain ⟨k, hk, rfl, hs⟩ := hrel
    have HS := hd hs
    clear hs
    by_cases hlt : k < 64
    · have hlt' : (k : Int) < 64 := by omega
      have i2 := run_index_in (P := Tryd.prog) 89 76 64 _ k _ und79 Tryd.sizeOf76 Tryd.isAgg76 hlt (PV.out k hlt)
      have hp := PB.out k hlt
      have H1 := hd (HT.out k)
      have H2 := hd (KT.out k)
      generalize pl.getD k 0 = p at *
      have R1 := hd (fun wv (hh : wv.cell? ⟨w.heap.size + 4, 0, none⟩ = some (.func (.func 46) #[] #[])) => root1_ok35 p (w.heap.size + 4) wv (by omega) hh)
      have R2 := hd (fun wv (hh : wv.cell? ⟨w.heap.size + 5, 0, none⟩ = some (.func (.func 47) #[] #[])) => root1_ok36 p (w.heap.size + 5) wv (by omega) hh)
      rw [← H1.out] at R1
      rw [← H2.out] at R2
      clear H1 H2
      by_cases h8 : k < 8
      · have h8' : (k : Int) < 8 := by omega
        have c1 := HS.out.h.cell k (.int .u32 0) (by rw [ws_len, uw_len]; exact h8)
        have f1 := HS.out.h.frozen k
        have c2 := HS.out.k.cell k (.int .u32 0) (by rw [ws_len, uw_len]; exact hlt)
        have f2 := HS.out.k.frozen k
        have HB := hd (HS.out.both h8)
        have c3 := HS.out.b0.cell 0 .nilFunc (by decide)
        have c4 := HS.out.b1.cell 0 .nilFunc (by decide)
        change _ = some (Value.func (.func 46) #[] #[]) at c3
        change _ = some (Value.func (.func 47) #[] #[]) at c4
        generalize (ws (Sha.uw Sha.H.list k)).getD k (.int .u32 0) = o1 at c1
        generalize (ws (Sha.uw Sha.K k)).getD k (.int .u32 0) = o2 at c2
        generalize ((Sha.hw k).toNat : Int) = η at *
        generalize ((Sha.kw k).toNat : Int) = κ at *
        have C3 := hd c3
        have C4 := hd c4
        clear c3 c4
        go_wp2_with fail
        refine (R1.out _ C3.out).mono ?_
        rintro e w4 ⟨rfl, rfl⟩
        go_wp2_with fail
        refine (R2.out _ ((HS.out.b1.other _ _ (by simp)).get rfl)).mono ?_
        rintro e w4 ⟨rfl, rfl⟩
        go_wp2_with fail
        go_roundw
        case rel => exact ⟨k + 1, by omega, by go_num, HB.out⟩
        case measure => simp [intOf]; omega
      · have h8' : (8 : Int) ≤ (k : Int) := by omega
        have c2 := HS.out.k.cell k (.int .u32 0) (by rw [ws_len, uw_len]; exact hlt)
        have f2 := HS.out.k.frozen k
        have HB := hd (HS.out.one (by omega) hlt)
        generalize (ws (Sha.uw Sha.K k)).getD k (.int .u32 0) = o2 at c2
        generalize ((Sha.kw k).toNat : Int) = κ at *
        clear R1
        go_wp2_with fail
        refine (R2.out _ (HS.out.b1.get rfl)).mono ?_
        rintro e w4 ⟨rfl, rfl⟩
        go_wp2_with fail
        go_roundw
        case rel => exact ⟨k + 1, by omega, by go_num, HB.out⟩
        case measure => simp [intOf]; omega
    · have hk64 : k = 64 := by omega
      subst hk64
      have T1 := HS.out.h
      have T2 := HS.out.k
      rw [uw_all Sha.H.list 64 (by decide)] at T1
      rw [uw_all Sha.K 64 (by decide)] at T2
      have T3 := HS.out.r0
      have T4 := HS.out.r1
      have TB := hd HS.out.bel
      clear HS PV PB HT KT
      have lh : (ws Sha.H.list).length = 8 := rfl
      have lk : (ws Sha.K).length = 64 := rfl
      have oh := hd (ws_one Sha.H.list)
      have ok := hd (ws_one Sha.K)
      generalize hhl : ws Sha.H.list = hl at *
      generalize hkl : ws Sha.K = kl at *
      have HHL := hd hhl
      have HKL := hd hkl
      clear hhl hkl
      have E1 : Hid (Row wr w.heap.size 63 (ws (List.replicate 8 0#32)) ∧ Row wr (w.heap.size + 1) 65 (ws (List.replicate 64 0#32))) := ⟨T3, T4⟩
      have g1 : RwE w.heap.size hl kl wr := ⟨T1, T2, ⟨_, by rw [ws_len]; rfl, T3⟩, ⟨_, by rw [ws_len]; rfl, T4⟩⟩
      have LH := hd lh
      have LK := hd lk
      clear T1 T2 T3 T4 lh lk
      go_wp2_with fail
      refine wp_region_held_drew (S := fun W => RwE w.heap.size hl kl W) (by kernel_rfl) g1.drew (fun hHeld => ?_)
      refine wpAnyH_take (i := 0) (oi := { dst := some 28, op := Op.load 63 (Operand.tmp 2), type := 63, pos := "rows.go:21", after := #[], guard := none }) (v := .agg hl.toArray) rfl (by kernel_rfl) (by kernel_rfl) (by kernel_rfl) (fun _ _ _ h => h) (yields_row (by rfl) 63 _ rfl (w.heap.size + 2) rfl 63 hl _ (fun _ h => h.h) und43 rfl (by rw [LH.out]; exact info43)) hHeld ?_
      simp only [Act.put, List.setIfInBounds_toArray, List.set_cons_zero, List.set_cons_succ]
      refine wpAnyH_take (i := 1) (oi := { dst := some 29, op := Op.load 65 (Operand.tmp 3), type := 65, pos := "rows.go:21", after := #[{ on := 2, ground := Ground.gcOnly Departure.lateStores }], guard := none }) (v := .agg kl.toArray) rfl (by kernel_rfl) (by kernel_rfl) (by kernel_rfl) (fun _ _ _ h => h) (yields_row (by rfl) 65 _ rfl (w.heap.size + 3) rfl 65 kl _ (fun _ h => h.k) und45 rfl (by rw [LK.out]; exact info45)) hHeld ?_
      simp only [Act.put, List.setIfInBounds_toArray, List.set_cons_zero, List.set_cons_succ]
      refine wpAnyH_ready (rs := [2]) (by kernel_rfl) (by simp) ?_
      refine AllReadyH.cons rfl (fun K hK => ?_) AllReadyH.nil
      refine step_store_row rfl 63 _ _ rfl w.heap.size hl rfl rfl 63 8 hHeld.r0 LH.out info43 oh.out ?_
      refine hK.out _ _ (hHeld.put0 LH.out) (fun hHeld2 => ?_)
      clear hK K
      refine wpAnyH_ready (rs := [3]) (by kernel_rfl) (by simp) ?_
      refine AllReadyH.cons rfl (fun K hK => ?_) AllReadyH.nil
      refine step_store_row rfl 65 _ _ rfl (w.heap.size + 1) kl rfl rfl 65 64 hHeld2.r1 LK.out info45 ok.out ?_
      refine hK.out _ _ (hHeld2.put1 LK.out) (fun hHeld3 => ?_)
      clear hK K
      refine wpAnyH_done (by kernel_rfl) ?_ _
      go_wp2_with fail
      have e0 : Hid (Row ((wr.drew.setRow w.heap.size hl.toArray).setRow (w.heap.size + 1) kl.toArray) w.heap.size 63 hl) := ((E1.out.1.drew).put (us := hl)).putOther (by omega)
      have e1 : Hid (Row ((wr.drew.setRow w.heap.size hl.toArray).setRow (w.heap.size + 1) kl.toArray) (w.heap.size + 1) 65 kl) := ((E1.out.2.drew).putOther (us := hl) (by omega)).put
      have e2 : Hid (Below w.heap.size w ((wr.drew.setRow w.heap.size hl.toArray).setRow (w.heap.size + 1) kl.toArray)) := below_setRow (below_setRow TB.out.drew _ _ (Nat.le_refl _)) _ _ (Nat.le_succ _)
      generalize (wr.drew.setRow w.heap.size hl.toArray).setRow (w.heap.size + 1) kl.toArray = wz at *
      refine bodyPost_ret (v := .tuple #[.agg hl.toArray, .agg kl.toArray]) ?_ rfl ⟨by rw [HHL.out, HKL.out], e2.out⟩
      have r0 := run_loadVar_row (P := Tryd.prog) wz w.heap.size 63 63 hl.toArray (0, 0) _ e0.out und43 rfl (by rw [List.size_toArray, LH.out]; exact info43)
      have r1 := run_loadVar_row (P := Tryd.prog) wz (w.heap.size + 1) 65 65 kl.toArray (0, 0) _ e1.out und45 rfl (by rw [List.size_toArray, LK.out]; exact info45)
      exact results_two_rows (P := Tryd.prog) (fn := Tryd.f31) (p := 0) (q := 1) (by kernel_rfl) _ _ _ _ _ _ rfl rfl r0 r1
end Go.Proofs.YteefpbeglmnilaaDoor
