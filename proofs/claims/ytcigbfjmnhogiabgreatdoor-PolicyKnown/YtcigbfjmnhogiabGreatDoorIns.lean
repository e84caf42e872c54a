/- slices.Insert of one rule, of one reader. -/
import Derived.Test.YtcigbfjmnhogiabGreatDoorPl
import Derived.Lib.Overlaps
import Derived.Lib.AppendZerosOnto
import Derived.Laws.AppendOwn
import Derived.Laws.CopyRow
import Derived.Laws.Externs
import Derived.Deep.RegionLaw
import Derived.Shelf.Spec.SlicesInsert
namespace Go.Proofs.YtcigbfjmnhogiabGreatDoor
open Go.RowKit
set_option linter.unusedVariables false

theorem splice_new {α : Type} (R xs vs : List α) (a : Nat) (ha : a ≤ xs.length) (hR : R.take a = xs.take a) (hl : xs.length + vs.length ≤ R.length) (L1 L2 : List α)
    (h1 : L1 = R.take a ++ vs ++ R.drop (a + vs.length)) (h2 : L2 = L1.take (a + vs.length) ++ xs.drop a ++ L1.drop (a + vs.length + (xs.length - a))) :
    L2.take (xs.length + vs.length) = xs.take a ++ vs ++ xs.drop a ∧ L2.length = R.length := by
  have e1 : L1.take (a + vs.length) = xs.take a ++ vs := by
    rw [h1, hR, List.take_append_of_le_length (by simp; omega)]
    exact List.take_of_length_le (by simp; omega)
  have l1 : L1.length = R.length := by rw [h1]; simp; omega
  rw [e1] at h2
  constructor
  · rw [h2, List.take_append_of_le_length (by simp; omega)]
    exact List.take_of_length_le (by simp; omega)
  · rw [h2]; simp [l1]; omega
theorem splice_room {α : Type} (R xs vs : List α) (a : Nat) (ha : a ≤ xs.length) (hR : R.take xs.length = xs) (hl : xs.length + vs.length ≤ R.length) (L1 L2 : List α)
    (h1 : L1 = R.take (a + vs.length) ++ xs.drop a ++ R.drop (a + vs.length + (xs.length - a))) (h2 : L2 = L1.take a ++ vs ++ L1.drop (a + vs.length)) :
    L2.take (xs.length + vs.length) = xs.take a ++ vs ++ xs.drop a ∧ L2.length = R.length := by
  have l1 : L1.length = R.length := by rw [h1]; simp; omega
  have e1 : L1.take a = xs.take a := by
    rw [h1, List.append_assoc, List.take_append_of_le_length (by simp; omega), List.take_take, Nat.min_eq_left (by omega), ← hR, List.take_take, Nat.min_eq_left (by omega)]
  have e2 : L1.drop (a + vs.length) = xs.drop a ++ R.drop (a + vs.length + (xs.length - a)) := by
    rw [h1, List.append_assoc]
    have : (R.take (a + vs.length)).length = a + vs.length := by simp; omega
    rw [List.drop_append_of_le_length (by omega), List.drop_of_length_le (by omega), List.nil_append]
  rw [e1, e2] at h2
  constructor
  · rw [h2, ← List.append_assoc, List.take_append_of_le_length (by simp; omega)]
    exact List.take_of_length_le (by simp; omega)
  · rw [h2]; simp; omega

/-- copy into a row, elements of several cells. -/
theorem run_copy_rowK {P : Program} (w : World) (dT sT ty elem : TypeId) (k g o dLen dCap : Nat) (a : Addr) (sLen sCap : Nat) (cur : Array Value) (t : TypeId) (cs : List Value) (m : Nat)
    (hu : P.underlying dT = some (.slice elem)) (hs : (P.info? elem).map (·.size) = some k)
    (hg : w.heap[g]? = some (.cells cur t (0, 0))) (hm : Nat.min sLen dLen = m) (hn : cs.length = m * k)
    (hsrc : ∀ j v, cs[j]? = some v → w.cell? (a.add j) = some v) (hfit : o + cs.length ≤ cur.size) (h1 : ∀ v ∈ cs, v.oneCell' = true) :
    (Builtin.copy_ #[dT, sT] ty #[.slice (some ⟨g, o, none⟩) dLen dCap, .slice (some a) sLen sCap]).run P w =
      .ok (goInt m) (w.setRow g (cur.toList.take o ++ cs ++ cur.toList.drop (o + cs.length)).toArray) := by
  have hl := run_loadCells_list (P := P) w a cs hsrc
  have hst := run_storeCells_at P g o t cs 0 cur w hg (by simpa using hfit) h1
  cases hq : P.info? elem with
  | none => simp [hq] at hs
  | some i =>
    have hi : i.size = k := by simpa [hq] using hs
    simp [Builtin.copy_, run_underlying hu, Builtin.lenOf, Builtin.firstCells, sizeOf, typeInfo, hq, hi, hm, ← hn, hl, hst]

/-- One more among the cells of a row of its own. -/
def InsEnd (w : World) (B : Nat) (t : TypeId) (k : Nat) (row : Option Nat) (n : Nat) (xs : List Value) (e : Ending) (w' : World) : Prop :=
  ∃ v', e = .returned v' ∧ w'.ownsRow B t k v' n xs ∧ w.grownBy w' row

theorem info54' : ∃ i : TypeInfo, Tryz.prog.info? 37 = some i ∧ i.zero = some (.agg #[.string ⟨#[]⟩, .int .i64 0, .int .u32 0]) ∧ i.size = 3 ∧ i.bytes = 32 := ⟨(Tryz.prog.info? 37).get!, by kernel_rfl, by kernel_rfl, by kernel_rfl, by kernel_rfl⟩
theorem isz54 : (Tryz.prog.info? 37).map (·.size) = some 3 := by kernel_rfl

theorem run113 (w : World) (a b : Addr) (la ca lb cb : Nat) (hne : a.block ≠ b.block) (tA tB : TypeId) (kA kB : Nat)
    (hsa : w.shape? a.block = some (tA, kA)) (hsb : w.shape? b.block = some (tB, kB)) (hkB : kB ≠ 0) (hfa : w.frozen? a = false) (hfe : w.frozen? ⟨a.block, kA, none⟩ = false) :
    (callFunc 79 #[.slice (some a) la ca, .slice (some b) lb cb]).run Tryz.prog w = .ok (.value (.bool false)) w := by
  rw [run_callFunc_extern Tryz.func79 (by kernel_rfl) (by kernel_rfl) (by kernel_rfl) (e := Extern.SlicesOverlaps.overlaps #[25, 25] #[4]) (by kernel_rfl),
    Lib.run_overlaps_apart w 25 4 37 Tryz.underlying25 3 Tryz.sizeOf37 a b la ca lb cb hne tA tB kA kB hsa hsb hkB hfa hfe]
  rfl

set_option maxRecDepth 100000 in
set_option maxHeartbeats 2000000 in
/-- At the end. -/
theorem insEndR {w : World} {B n : Nat} {v : Value} {xs vs : List Value} {vb : Nat} (ho : w.ownsRow B 37 3 v n xs) (hv : Bk w vb 37 vs.toArray) (hvl : vs.length = 3) (h1 : ∀ u ∈ vs, u.oneCell' = true) (hn : n ≤ 100) (hB : B ≤ w.heap.size) :
    Calls Tryz.prog 59 #[v, .int .i64 (n : Int), .slice (some ⟨vb, 0, none⟩) 1 1] w fun e w' => InsEnd w B 37 3 v.ownBlock (n + 1) (xs ++ vs) e w' := by
  obtain ⟨i, hi, hz, hsz, hby⟩ := info54'
  obtain ⟨v', w', hrun, hown, hgr, _⟩ := run_append_own (P := Tryz.prog) w B 25 25 37 i _ 3 32 Tryz.underlying25 hi hz hsz hby rfl (by omega) v n xs ho ⟨vb, 0, none⟩ 1 1 vs (by rw [hvl])
    (fun j u hj => by rw [Addr.add_lit, Nat.zero_add, hv.cell]; simpa using hj) h1 (by unfold maxLen; omega) (by omega) hB
  have HR := hd hrun
  have HO := hd hown
  have HG := hd hgr
  have hform : ∃ x cap, v = .slice x n cap ∧ n ≤ cap ∧ cap ≤ maxLen ∧ (x = none → cap = 0) := by
    rcases ho.2 with ⟨rfl, rfl⟩ | ⟨g, cap, cur, rfl, _, _, h3, h4, _⟩
    · exact ⟨none, 0, rfl, Nat.le_refl _, by simp [maxLen], fun _ => rfl⟩
    · exact ⟨_, cap, rfl, h3, h4, fun h => by cases h⟩
  generalize v.ownBlock = row at *
  obtain ⟨x, cap, rfl, hc1, hc2, hc3⟩ := hform
  unfold maxLen at hc2
  clear hrun hown hgr ho hv hvl h1 hB
  go_enter Tryz.func59, Tryz.ntmps59
  go_wp2_with (at_builtin; refine Lib.wpList_append_run _ rfl _ _ 25 25 rfl _ _ rfl rfl v' w' HR.out ?_)
  all_goals
    go_ret
    exact ⟨_, rfl, HO.out, HG.out⟩

set_option maxRecDepth 100000 in
set_option maxHeartbeats 4000000 in
/-- Ahead of the end, no room: a new row. -/
theorem insNewR {w : World} {B n i g : Nat} {xs vs : List Value} {vb : Nat} (ho : w.ownsRow B 37 3 (.slice (some ⟨g, 0, none⟩) n n) n xs) (hv : Bk w vb 37 vs.toArray) (hvl : vs.length = 3) (h1 : ∀ u ∈ vs, u.oneCell' = true) (h2 : ∀ u ∈ xs, u.oneCell' = true) (hi : i < n) (hn : n ≤ 100) (hB : B ≤ w.heap.size) :
    Calls Tryz.prog 59 #[.slice (some ⟨g, 0, none⟩) n n, .int .i64 (i : Int), .slice (some ⟨vb, 0, none⟩) 1 1] w fun e w' => InsEnd w B 37 3 (some g) (n + 1) (xs.take (i * 3) ++ vs ++ xs.drop (i * 3)) e w' := by
  obtain ⟨i0, hi0, hz, hsz, hby⟩ := info54'
  have hxl : xs.length = n * 3 := ho.1
  have hgl : ∀ j u, xs[j]? = some u → w.cell? ((⟨g, 0, none⟩ : Addr).add j) = some u := ho.cells rfl
  have hgw : g < w.heap.size := (ho.lt g rfl).2
  have hvw : vb < w.heap.size := hv.lt
  have hold : (Builtin.firstCells i0.size i (.slice (some ⟨g, 0, none⟩) i n)).run Tryz.prog w.drew = .ok (xs.take (i * 3)).toArray w.drew := by
    rw [hsz]
    exact run_firstCells_some w.drew 3 i ⟨g, 0, none⟩ i n (xs.take (i * 3)) (by rw [List.length_take]; omega) (fun j u hj => by
      rw [List.getElem?_take] at hj
      split at hj
      · exact hgl j u hj
      · cases hj)
  have hkk : (n : Int) + 1 - (i : Int) = ((n + 1 - i : Nat) : Int) := by omega
  obtain ⟨G, hG⟩ : ∃ G, grownCap w (n + 1) n 37 = G := ⟨_, rfl⟩
  obtain ⟨ROW, hROW⟩ : ∃ ROW : Array Value, (xs.take (i * 3)).toArray ++ Builtin.zeroCells (Value.cells (.agg #[.string ⟨#[]⟩, .int .i64 0, .int .u32 0])) (n + 1 - i) ++ Builtin.zeroCells (Value.cells (.agg #[.string ⟨#[]⟩, .int .i64 0, .int .u32 0])) (G - (n + 1)) = ROW := ⟨_, rfl⟩
  have hGn : n + 1 ≤ G := by rw [← hG]; exact grownCap_ge w _ _ _
  have hGm : G ≤ maxLen := by rw [← hG]; exact grownCap_le_maxLen w _ _ _ (by unfold maxLen; omega)
  have hrz : ∀ ty, (Builtin.append_ #[25, 3] ty #[.slice (some ⟨g, 0, none⟩) i n, .int .i64 ((n + 1 - i : Nat) : Int)]).run Tryz.prog w =
      .ok (.slice (some ⟨w.heap.size, 0, none⟩) (n + 1) G) (w.drew.alloc (.cells ROW 37)) := fun ty => by
    have h := Lib.run_append_grow_zeros w 25 3 ty 37 i0 _ .i64 .i64 Tryz.underlying25 Tryz.underlying3 hi0 hz (some ⟨g, 0, none⟩) i n (xs.take (i * 3)) hold (n + 1 - i) (by omega) (by omega) (by omega) (by omega) (by rw [hby]; omega) (by rw [hby, show i + (n + 1 - i) = n + 1 by omega]; exact growslice_fits (by omega) (by omega))
    rw [show i + (n + 1 - i) = n + 1 by omega, hG, hROW] at h
    exact h
  have hRs : ROW.size = G * 3 := by
    rw [← hROW]
    simp [Builtin.zeroCells, Value.cells]
    omega
  have hRt : ROW.toList.take (i * 3) = xs.take (i * 3) := by
    rw [← hROW]
    simp only [Array.toList_append, List.append_assoc]
    rw [List.take_append_of_le_length (by simp; omega)]
    exact List.take_of_length_le (by simp; omega)
  clear hold hROW
  obtain ⟨W1, hW1⟩ : ∃ W1, w.drew.alloc (.cells ROW 37) = W1 := ⟨_, rfl⟩
  have hb1 : W1.heap[w.heap.size]? = some (.cells ROW 37 (0, 0)) := by rw [← hW1]; exact heap_alloc_new w.drew _
  have hB1 : Below w.heap.size w W1 := by rw [← hW1]; exact ((Below.refl _ w).drew).alloc (Nat.le_refl _) _
  rw [hW1] at hrz
  clear hW1
  obtain ⟨L1, hL1⟩ : ∃ L1, ROW.toList.take (i * 3) ++ vs ++ ROW.toList.drop (i * 3 + vs.length) = L1 := ⟨_, rfl⟩
  have hcA : ∀ ty dc, (Builtin.copy_ #[25, 25] ty #[.slice (some ⟨w.heap.size, i * 3, none⟩) (n + 1 - i) dc, .slice (some ⟨vb, 0, none⟩) 1 1]).run Tryz.prog W1 = .ok (goInt ((1 : Nat) : Int)) (W1.setRow w.heap.size L1.toArray) := fun ty dc => by
    rw [run_copy_rowK W1 25 25 ty 37 3 w.heap.size (i * 3) (n + 1 - i) dc ⟨vb, 0, none⟩ 1 1 ROW 37 vs 1 Tryz.underlying25 isz54 hb1 (by simp only [Nat.min_def]; split <;> omega) (by rw [hvl])
      (fun j u hj => by rw [Addr.add_lit, Nat.zero_add, below_cell hB1 (p := ⟨vb, j, none⟩) hvw, hv.cell]; simpa using hj) (by rw [hvl, hRs]; omega) h1, hL1]
  obtain ⟨W2, hW2⟩ : ∃ W2, W1.setRow w.heap.size L1.toArray = W2 := ⟨_, rfl⟩
  have hb2 : W2.heap[w.heap.size]? = some (.cells L1.toArray 37 (0, 0)) := by rw [← hW2]; exact setRow_heap W1 _ _ _ 37 _ hb1
  have hB2 : Below w.heap.size w W2 := by rw [← hW2]; exact below_setRow hB1 _ _ (Nat.le_refl _)
  rw [hW2] at hcA
  clear hW2
  obtain ⟨L2, hL2⟩ : ∃ L2, L1.take (i * 3 + vs.length) ++ xs.drop (i * 3) ++ L1.drop (i * 3 + vs.length + (xs.length - i * 3)) = L2 := ⟨_, rfl⟩
  obtain ⟨hfin, hfl⟩ := splice_new ROW.toList xs vs (i * 3) (by omega) hRt (by rw [hvl, hxl]; simp [hRs]; omega) L1 L2 hL1.symm hL2.symm
  have hL1l : L1.length = G * 3 := by rw [← hL1]; simp [hvl, hRs]; omega
  have hcB : ∀ ty dc sc, (Builtin.copy_ #[25, 25] ty #[.slice (some ⟨w.heap.size, (i + 1) * 3, none⟩) (n + 1 - (i + 1)) dc, .slice (some ⟨g, i * 3, none⟩) (n - i) sc]).run Tryz.prog W2.drew = .ok (goInt ((n - i : Nat) : Int)) (W2.drew.setRow w.heap.size L2.toArray) := fun ty dc sc => by
    have h := run_copy_rowK W2.drew 25 25 ty 37 3 w.heap.size ((i + 1) * 3) (n + 1 - (i + 1)) dc ⟨g, i * 3, none⟩ (n - i) sc L1.toArray 37 (xs.drop (i * 3)) (n - i) Tryz.underlying25 isz54 hb2 (by simp only [Nat.min_def]; split <;> omega) (by rw [List.length_drop, hxl]; omega)
      (fun j u hj => by
        rw [Addr.add_lit]
        show W2.cell? _ = _
        rw [below_cell hB2 (p := ⟨g, i * 3 + j, none⟩) hgw]
        rw [List.getElem?_drop] at hj
        have := hgl _ u hj
        rwa [Addr.add_lit, Nat.zero_add] at this) (by rw [List.length_drop, hxl]; simp [hL1l]; omega) (fun u hu => h2 u (List.mem_of_mem_drop hu))
    rw [h, ← hL2, show (i + 1) * 3 = i * 3 + vs.length by rw [hvl]; omega, List.length_drop]
  have hpost : (W2.drew.setRow w.heap.size L2.toArray).ownsRow B 37 3 (.slice (some ⟨w.heap.size, 0, none⟩) (n + 1) G) (n + 1) (xs.take (i * 3) ++ vs ++ xs.drop (i * 3)) :=
    ⟨by simp [hvl, hxl]; omega, Or.inr ⟨w.heap.size, G, L2.toArray, rfl, hB, setRow_heap W2.drew _ _ _ 37 _ hb2, hGn, hGm, by simp [hfl, hRs], by rw [← hfin, hvl, hxl]; congr 1; omega⟩⟩
  have HP := hd hpost
  have HB3 : Hid (Below w.heap.size w (W2.drew.setRow w.heap.size L2.toArray)) := hd (below_setRow hB2.drew _ _ (Nat.le_refl _))
  have hz1 : ¬ ((i : Int) = (n : Int)) := by omega
  have hz2 : (i : Int) ≤ (n : Int) := by omega
  have hz3 : (n : Int) < (n : Int) + 1 := by omega
  have hGi : ¬ (G = i) := by omega
  have hGi2 : ¬ (G = i + 1) := by omega
  have hw1 : IntKind.i64.wrap ((i : Int) + 1) = (i : Int) + 1 := by rw [IntKind.wrap_i64]; omega
  have hw2 : (0 : Int) ≤ (i : Int) + 1 := by omega
  have hw3 : ((i : Int) + 1).toNat = i + 1 := by omega
  have hw4 : i ≤ n := by omega
  have hni : ¬ (n = i) := by omega
  unfold maxLen at hGm
  clear hpost hB2 hB1 hb1 hb2 hfin hfl hRt hRs hL1 hL2 hL1l hvl h1 h2 hv ho hgl hG hi0 hz hsz hby hxl hgw hvw
  go_enter Tryz.func59, Tryz.ntmps59
  go_wp2_with (first
    | (at_builtin; refine Lib.wpList_append_run _ rfl _ _ _ _ rfl _ _ rfl rfl _ _ (hrz _) ?_)
    | (at_builtin; refine wpList_copy_runI _ rfl _ _ 25 25 rfl _ _ rfl rfl (hcA _ _) ?_))
  go_region_law (refine step_copy_runI rfl _ _ 25 25 rfl (.slice (some ⟨w.heap.size, (i + 1) * 3, none⟩) (n + 1 - (i + 1)) (G - (i + 1))) (.slice (some ⟨g, i * 3, none⟩) (n - i) (n - i)) (by simp [Act.eval, Act.put]) (by simp [Act.eval, Act.put]) (hcB 3 (G - (i + 1)) (n - i)) ?_)
  go_wp2_with fail
  go_ret
  exact ⟨_, rfl, HP.out, HB3.out.os, HB3.out.tape, HB3.out.output, HB3.out.size, fun q hq _ => HB3.out.block q hq⟩

set_option maxRecDepth 100000 in
set_option maxHeartbeats 4000000 in
/-- Ahead of the end, with room: in place. -/
theorem insRoomR {w : World} {B n i g c : Nat} {xs vs : List Value} {vb : Nat} (ho : w.ownsRow B 37 3 (.slice (some ⟨g, 0, none⟩) n c) n xs) (hv : Bk w vb 37 vs.toArray) (hvg : vb ≠ g) (hvl : vs.length = 3) (h1 : ∀ u ∈ vs, u.oneCell' = true) (h2 : ∀ u ∈ xs, u.oneCell' = true) (hi : i < n) (hn : n ≤ 100) (hc : n + 1 ≤ c) :
    Calls Tryz.prog 59 #[.slice (some ⟨g, 0, none⟩) n c, .int .i64 (i : Int), .slice (some ⟨vb, 0, none⟩) 1 1] w fun e w' => InsEnd w B 37 3 (some g) (n + 1) (xs.take (i * 3) ++ vs ++ xs.drop (i * 3)) e w' := by
  have hxl : xs.length = n * 3 := ho.1
  have hgl : ∀ j u, xs[j]? = some u → w.cell? ((⟨g, 0, none⟩ : Addr).add j) = some u := ho.cells rfl
  obtain ⟨hBg, hgw⟩ := ho.lt g rfl
  obtain ⟨cur, hgh, hcm, hcs, htk⟩ : ∃ cur, w.heap[g]? = some (.cells cur 37 (0, 0)) ∧ c ≤ maxLen ∧ cur.size = c * 3 ∧ cur.toList.take (n * 3) = xs := by
    rcases ho.2 with ⟨h, _⟩ | ⟨g', cap, cur, h, _, h3, _, h5, h6, h7⟩
    · cases h
    · injection h with e1 e2 e3
      injection e1 with e1
      injection e1 with e1 _ _
      subst e1 e3
      exact ⟨cur, h3, h5, h6, h7⟩
  obtain ⟨L1, hL1⟩ : ∃ L1, cur.toList.take (i * 3 + vs.length) ++ xs.drop (i * 3) ++ cur.toList.drop (i * 3 + vs.length + (xs.length - i * 3)) = L1 := ⟨_, rfl⟩
  have hcB : ∀ ty dc sc, (Builtin.copy_ #[25, 25] ty #[.slice (some ⟨g, (i + 1) * 3, none⟩) (n + 1 - (i + 1)) dc, .slice (some ⟨g, i * 3, none⟩) (n + 1 - i) sc]).run Tryz.prog w.drew = .ok (goInt ((n - i : Nat) : Int)) (w.drew.setRow g L1.toArray) := fun ty dc sc => by
    have h := run_copy_rowK w.drew 25 25 ty 37 3 g ((i + 1) * 3) (n + 1 - (i + 1)) dc ⟨g, i * 3, none⟩ (n + 1 - i) sc cur 37 (xs.drop (i * 3)) (n - i) Tryz.underlying25 isz54 hgh (by simp only [Nat.min_def]; split <;> omega) (by rw [List.length_drop, hxl]; omega)
      (fun j u hj => by
        rw [Addr.add_lit]
        show w.cell? _ = _
        rw [List.getElem?_drop] at hj
        have := hgl _ u hj
        rwa [Addr.add_lit, Nat.zero_add] at this) (by rw [List.length_drop, hxl, hcs]; omega) (fun u hu => h2 u (List.mem_of_mem_drop hu))
    rw [h, ← hL1, show (i + 1) * 3 = i * 3 + vs.length by rw [hvl]; omega, List.length_drop]
  have hL1l : L1.length = c * 3 := by rw [← hL1]; simp [hvl, hxl, hcs]; omega
  obtain ⟨W1, hW1⟩ : ∃ W1, w.drew.setRow g L1.toArray = W1 := ⟨_, rfl⟩
  have hb1 : W1.heap[g]? = some (.cells L1.toArray 37 (0, 0)) := by rw [← hW1]; exact setRow_heap w.drew _ _ _ 37 _ hgh
  have hvb1 : Bk W1 vb 37 vs.toArray := by rw [← hW1]; exact (setRow_other w.drew g vb _ hvg).trans hv
  have hg1 : w.grownBy W1 (some g) := by rw [← hW1]; exact ⟨rfl, rfl, rfl, by simp, fun q hq hne => setRow_other w.drew g q _ (fun e => hne (by rw [e]))⟩
  rw [hW1] at hcB
  obtain ⟨L2, hL2⟩ : ∃ L2, L1.take (i * 3) ++ vs ++ L1.drop (i * 3 + vs.length) = L2 := ⟨_, rfl⟩
  obtain ⟨hfin, hfl⟩ := splice_room cur.toList xs vs (i * 3) (by omega) (by rw [hxl]; exact htk) (by rw [hvl, hxl]; simp [hcs]; omega) L1 L2 hL1.symm hL2.symm
  have hcA : ∀ ty dc, (Builtin.copy_ #[25, 25] ty #[.slice (some ⟨g, i * 3, none⟩) (n + 1 - i) dc, .slice (some ⟨vb, 0, none⟩) 1 1]).run Tryz.prog W1 = .ok (goInt ((1 : Nat) : Int)) (W1.setRow g L2.toArray) := fun ty dc => by
    rw [run_copy_rowK W1 25 25 ty 37 3 g (i * 3) (n + 1 - i) dc ⟨vb, 0, none⟩ 1 1 L1.toArray 37 vs 1 Tryz.underlying25 isz54 hb1 (by simp only [Nat.min_def]; split <;> omega) (by rw [hvl])
      (fun j u hj => by rw [Addr.add_lit, Nat.zero_add, hvb1.cell]; simpa using hj) (by rw [hvl]; simp [hL1l]; omega) h1, hL2]
  have hpost : (W1.setRow g L2.toArray).ownsRow B 37 3 (.slice (some ⟨g, 0, none⟩) (n + 1) c) (n + 1) (xs.take (i * 3) ++ vs ++ xs.drop (i * 3)) :=
    ⟨by simp [hvl, hxl]; omega, Or.inr ⟨g, c, L2.toArray, rfl, hBg, setRow_heap W1 _ _ _ 37 _ hb1, hc, hcm, by simp [hfl, hcs], by rw [← hfin, hvl, hxl]; congr 1; omega⟩⟩
  have HP := hd hpost
  have HG : Hid (w.grownBy (W1.setRow g L2.toArray) (some g)) := hd ⟨hg1.os, hg1.tape, hg1.output, by simpa using hg1.size, fun q hq hne => (setRow_other W1 g q _ (fun e => hne (by rw [e]))).trans (hg1.block q hq hne)⟩
  have hov : ∀ lb cb, (callFunc 79 #[.slice (some ⟨vb, 0, none⟩) 1 1, .slice (some ⟨g, (i + 1) * 3, none⟩) lb cb]).run Tryz.prog w = .ok (.value (.bool false)) w := fun lb cb =>
    run113 w ⟨vb, 0, none⟩ ⟨g, (i + 1) * 3, none⟩ 1 1 lb cb hvg 37 37 3 (c * 3) (by rw [World.shape?, show w.heap[vb]? = _ from hv]; simp [hvl]) (by rw [World.shape?, hgh]; simp [hcs]) (by omega) (hv.fz 0) (hv.fz 3)
  have hz1 : ¬ ((i : Int) = (n : Int)) := by omega
  have hz2 : (i : Int) ≤ (n : Int) := by omega
  have hz3 : ¬ (c : Int) < (n : Int) + 1 := by omega
  have hz4 : (n : Int) + 1 ≤ (c : Int) := by omega
  have hz5 : (i : Int) ≤ (n : Int) + 1 := by omega
  have hGi : ¬ (c = i) := by omega
  have hGi2 : ¬ (c = i + 1) := by omega
  have hw1 : IntKind.i64.wrap ((i : Int) + 1) = (i : Int) + 1 := by rw [IntKind.wrap_i64]; omega
  have hw2 : (0 : Int) ≤ (i : Int) + 1 := by omega
  have hw3 : ((i : Int) + 1).toNat = i + 1 := by omega
  have hw4 : i ≤ n := by omega
  have hni : ¬ (n = i) := by omega
  unfold maxLen at hcm
  clear hpost hb1 hvb1 hg1 hfin hfl hL1 hL2 hL1l hv hvl hvg h1 h2 ho hgl hxl hgw hgh hcs htk hW1
  go_enter Tryz.func59, Tryz.ntmps59
  go_wp2_with (simp only [hov])
  go_region_law (refine step_copy_runI rfl _ _ 25 25 rfl (.slice (some ⟨g, (i + 1) * 3, none⟩) (n + 1 - (i + 1)) (c - (i + 1))) (.slice (some ⟨g, i * 3, none⟩) (n + 1 - i) (c - i)) (by simp [Act.eval, Act.put]) (by simp [Act.eval, Act.put]) (hcB 3 (c - (i + 1)) (c - i)) ?_)
  go_wp2_with (at_builtin; refine wpList_copy_runI _ rfl _ _ 25 25 rfl _ _ rfl rfl (hcA _ _) ?_)
  go_ret
  exact ⟨_, rfl, HP.out, HG.out⟩

theorem info34' : ∃ i : TypeInfo, Tryz.prog.info? 39 = some i ∧ i.zero = some (.agg #[.string ⟨#[]⟩, .int .i64 0, .int .u32 0, .int .i64 0, .int .i64 0]) ∧ i.size = 5 ∧ i.bytes = 48 := ⟨(Tryz.prog.info? 39).get!, by kernel_rfl, by kernel_rfl, by kernel_rfl, by kernel_rfl⟩
theorem isz34 : (Tryz.prog.info? 39).map (·.size) = some 5 := by kernel_rfl

theorem run117 (w : World) (a b : Addr) (la ca lb cb : Nat) (hne : a.block ≠ b.block) (tA tB : TypeId) (kA kB : Nat)
    (hsa : w.shape? a.block = some (tA, kA)) (hsb : w.shape? b.block = some (tB, kB)) (hkB : kB ≠ 0) (hfa : w.frozen? a = false) (hfe : w.frozen? ⟨a.block, kA, none⟩ = false) :
    (callFunc 85 #[.slice (some a) la ca, .slice (some b) lb cb]).run Tryz.prog w = .ok (.value (.bool false)) w := by
  rw [run_callFunc_extern Tryz.func85 (by kernel_rfl) (by kernel_rfl) (by kernel_rfl) (e := Extern.SlicesOverlaps.overlaps #[26, 26] #[4]) (by kernel_rfl),
    Lib.run_overlaps_apart w 26 4 39 Tryz.underlying26 5 Tryz.sizeOf39 a b la ca lb cb hne tA tB kA kB hsa hsb hkB hfa hfe]
  rfl

set_option maxRecDepth 100000 in
set_option maxHeartbeats 2000000 in
/-- At the end. -/
theorem insEndQ {w : World} {B n : Nat} {v : Value} {xs vs : List Value} {vb : Nat} (ho : w.ownsRow B 39 5 v n xs) (hv : Bk w vb 39 vs.toArray) (hvl : vs.length = 5) (h1 : ∀ u ∈ vs, u.oneCell' = true) (hn : n ≤ 100) (hB : B ≤ w.heap.size) :
    Calls Tryz.prog 63 #[v, .int .i64 (n : Int), .slice (some ⟨vb, 0, none⟩) 1 1] w fun e w' => InsEnd w B 39 5 v.ownBlock (n + 1) (xs ++ vs) e w' := by
  obtain ⟨i, hi, hz, hsz, hby⟩ := info34'
  obtain ⟨v', w', hrun, hown, hgr, _⟩ := run_append_own (P := Tryz.prog) w B 26 26 39 i _ 5 48 Tryz.underlying26 hi hz hsz hby rfl (by omega) v n xs ho ⟨vb, 0, none⟩ 1 1 vs (by rw [hvl])
    (fun j u hj => by rw [Addr.add_lit, Nat.zero_add, hv.cell]; simpa using hj) h1 (by unfold maxLen; omega) (by omega) hB
  have HR := hd hrun
  have HO := hd hown
  have HG := hd hgr
  have hform : ∃ x cap, v = .slice x n cap ∧ n ≤ cap ∧ cap ≤ maxLen ∧ (x = none → cap = 0) := by
    rcases ho.2 with ⟨rfl, rfl⟩ | ⟨g, cap, cur, rfl, _, _, h3, h4, _⟩
    · exact ⟨none, 0, rfl, Nat.le_refl _, by simp [maxLen], fun _ => rfl⟩
    · exact ⟨_, cap, rfl, h3, h4, fun h => by cases h⟩
  generalize v.ownBlock = row at *
  obtain ⟨x, cap, rfl, hc1, hc2, hc3⟩ := hform
  unfold maxLen at hc2
  clear hrun hown hgr ho hv hvl h1 hB
  go_enter Tryz.func63, Tryz.ntmps63
  go_wp2_with (at_builtin; refine Lib.wpList_append_run _ rfl _ _ 26 26 rfl _ _ rfl rfl v' w' HR.out ?_)
  all_goals
    go_ret
    exact ⟨_, rfl, HO.out, HG.out⟩

set_option maxRecDepth 100000 in
set_option maxHeartbeats 4000000 in
/-- Ahead of the end, no room: a new row. -/
theorem insNewQ {w : World} {B n i g : Nat} {xs vs : List Value} {vb : Nat} (ho : w.ownsRow B 39 5 (.slice (some ⟨g, 0, none⟩) n n) n xs) (hv : Bk w vb 39 vs.toArray) (hvl : vs.length = 5) (h1 : ∀ u ∈ vs, u.oneCell' = true) (h2 : ∀ u ∈ xs, u.oneCell' = true) (hi : i < n) (hn : n ≤ 100) (hB : B ≤ w.heap.size) :
    Calls Tryz.prog 63 #[.slice (some ⟨g, 0, none⟩) n n, .int .i64 (i : Int), .slice (some ⟨vb, 0, none⟩) 1 1] w fun e w' => InsEnd w B 39 5 (some g) (n + 1) (xs.take (i * 5) ++ vs ++ xs.drop (i * 5)) e w' := by
  obtain ⟨i0, hi0, hz, hsz, hby⟩ := info34'
  have hxl : xs.length = n * 5 := ho.1
  have hgl : ∀ j u, xs[j]? = some u → w.cell? ((⟨g, 0, none⟩ : Addr).add j) = some u := ho.cells rfl
  have hgw : g < w.heap.size := (ho.lt g rfl).2
  have hvw : vb < w.heap.size := hv.lt
  have hold : (Builtin.firstCells i0.size i (.slice (some ⟨g, 0, none⟩) i n)).run Tryz.prog w.drew = .ok (xs.take (i * 5)).toArray w.drew := by
    rw [hsz]
    exact run_firstCells_some w.drew 5 i ⟨g, 0, none⟩ i n (xs.take (i * 5)) (by rw [List.length_take]; omega) (fun j u hj => by
      rw [List.getElem?_take] at hj
      split at hj
      · exact hgl j u hj
      · cases hj)
  have hkk : (n : Int) + 1 - (i : Int) = ((n + 1 - i : Nat) : Int) := by omega
  obtain ⟨G, hG⟩ : ∃ G, grownCap w (n + 1) n 39 = G := ⟨_, rfl⟩
  obtain ⟨ROW, hROW⟩ : ∃ ROW : Array Value, (xs.take (i * 5)).toArray ++ Builtin.zeroCells (Value.cells (.agg #[.string ⟨#[]⟩, .int .i64 0, .int .u32 0, .int .i64 0, .int .i64 0])) (n + 1 - i) ++ Builtin.zeroCells (Value.cells (.agg #[.string ⟨#[]⟩, .int .i64 0, .int .u32 0, .int .i64 0, .int .i64 0])) (G - (n + 1)) = ROW := ⟨_, rfl⟩
  have hGn : n + 1 ≤ G := by rw [← hG]; exact grownCap_ge w _ _ _
  have hGm : G ≤ maxLen := by rw [← hG]; exact grownCap_le_maxLen w _ _ _ (by unfold maxLen; omega)
  have hrz : ∀ ty, (Builtin.append_ #[26, 3] ty #[.slice (some ⟨g, 0, none⟩) i n, .int .i64 ((n + 1 - i : Nat) : Int)]).run Tryz.prog w =
      .ok (.slice (some ⟨w.heap.size, 0, none⟩) (n + 1) G) (w.drew.alloc (.cells ROW 39)) := fun ty => by
    have h := Lib.run_append_grow_zeros w 26 3 ty 39 i0 _ .i64 .i64 Tryz.underlying26 Tryz.underlying3 hi0 hz (some ⟨g, 0, none⟩) i n (xs.take (i * 5)) hold (n + 1 - i) (by omega) (by omega) (by omega) (by omega) (by rw [hby]; omega) (by rw [hby, show i + (n + 1 - i) = n + 1 by omega]; exact growslice_fits (by omega) (by omega))
    rw [show i + (n + 1 - i) = n + 1 by omega, hG, hROW] at h
    exact h
  have hRs : ROW.size = G * 5 := by
    rw [← hROW]
    simp [Builtin.zeroCells, Value.cells]
    omega
  have hRt : ROW.toList.take (i * 5) = xs.take (i * 5) := by
    rw [← hROW]
    simp only [Array.toList_append, List.append_assoc]
    rw [List.take_append_of_le_length (by simp; omega)]
    exact List.take_of_length_le (by simp; omega)
  clear hold hROW
  obtain ⟨W1, hW1⟩ : ∃ W1, w.drew.alloc (.cells ROW 39) = W1 := ⟨_, rfl⟩
  have hb1 : W1.heap[w.heap.size]? = some (.cells ROW 39 (0, 0)) := by rw [← hW1]; exact heap_alloc_new w.drew _
  have hB1 : Below w.heap.size w W1 := by rw [← hW1]; exact ((Below.refl _ w).drew).alloc (Nat.le_refl _) _
  rw [hW1] at hrz
  clear hW1
  obtain ⟨L1, hL1⟩ : ∃ L1, ROW.toList.take (i * 5) ++ vs ++ ROW.toList.drop (i * 5 + vs.length) = L1 := ⟨_, rfl⟩
  have hcA : ∀ ty dc, (Builtin.copy_ #[26, 26] ty #[.slice (some ⟨w.heap.size, i * 5, none⟩) (n + 1 - i) dc, .slice (some ⟨vb, 0, none⟩) 1 1]).run Tryz.prog W1 = .ok (goInt ((1 : Nat) : Int)) (W1.setRow w.heap.size L1.toArray) := fun ty dc => by
    rw [run_copy_rowK W1 26 26 ty 39 5 w.heap.size (i * 5) (n + 1 - i) dc ⟨vb, 0, none⟩ 1 1 ROW 39 vs 1 Tryz.underlying26 isz34 hb1 (by simp only [Nat.min_def]; split <;> omega) (by rw [hvl])
      (fun j u hj => by rw [Addr.add_lit, Nat.zero_add, below_cell hB1 (p := ⟨vb, j, none⟩) hvw, hv.cell]; simpa using hj) (by rw [hvl, hRs]; omega) h1, hL1]
  obtain ⟨W2, hW2⟩ : ∃ W2, W1.setRow w.heap.size L1.toArray = W2 := ⟨_, rfl⟩
  have hb2 : W2.heap[w.heap.size]? = some (.cells L1.toArray 39 (0, 0)) := by rw [← hW2]; exact setRow_heap W1 _ _ _ 39 _ hb1
  have hB2 : Below w.heap.size w W2 := by rw [← hW2]; exact below_setRow hB1 _ _ (Nat.le_refl _)
  rw [hW2] at hcA
  clear hW2
  obtain ⟨L2, hL2⟩ : ∃ L2, L1.take (i * 5 + vs.length) ++ xs.drop (i * 5) ++ L1.drop (i * 5 + vs.length + (xs.length - i * 5)) = L2 := ⟨_, rfl⟩
  obtain ⟨hfin, hfl⟩ := splice_new ROW.toList xs vs (i * 5) (by omega) hRt (by rw [hvl, hxl]; simp [hRs]; omega) L1 L2 hL1.symm hL2.symm
  have hL1l : L1.length = G * 5 := by rw [← hL1]; simp [hvl, hRs]; omega
  have hcB : ∀ ty dc sc, (Builtin.copy_ #[26, 26] ty #[.slice (some ⟨w.heap.size, (i + 1) * 5, none⟩) (n + 1 - (i + 1)) dc, .slice (some ⟨g, i * 5, none⟩) (n - i) sc]).run Tryz.prog W2.drew = .ok (goInt ((n - i : Nat) : Int)) (W2.drew.setRow w.heap.size L2.toArray) := fun ty dc sc => by
    have h := run_copy_rowK W2.drew 26 26 ty 39 5 w.heap.size ((i + 1) * 5) (n + 1 - (i + 1)) dc ⟨g, i * 5, none⟩ (n - i) sc L1.toArray 39 (xs.drop (i * 5)) (n - i) Tryz.underlying26 isz34 hb2 (by simp only [Nat.min_def]; split <;> omega) (by rw [List.length_drop, hxl]; omega)
      (fun j u hj => by
        rw [Addr.add_lit]
        show W2.cell? _ = _
        rw [below_cell hB2 (p := ⟨g, i * 5 + j, none⟩) hgw]
        rw [List.getElem?_drop] at hj
        have := hgl _ u hj
        rwa [Addr.add_lit, Nat.zero_add] at this) (by rw [List.length_drop, hxl]; simp [hL1l]; omega) (fun u hu => h2 u (List.mem_of_mem_drop hu))
    rw [h, ← hL2, show (i + 1) * 5 = i * 5 + vs.length by rw [hvl]; omega, List.length_drop]
  have hpost : (W2.drew.setRow w.heap.size L2.toArray).ownsRow B 39 5 (.slice (some ⟨w.heap.size, 0, none⟩) (n + 1) G) (n + 1) (xs.take (i * 5) ++ vs ++ xs.drop (i * 5)) :=
    ⟨by simp [hvl, hxl]; omega, Or.inr ⟨w.heap.size, G, L2.toArray, rfl, hB, setRow_heap W2.drew _ _ _ 39 _ hb2, hGn, hGm, by simp [hfl, hRs], by rw [← hfin, hvl, hxl]; congr 1; omega⟩⟩
  have HP := hd hpost
  have HB3 : Hid (Below w.heap.size w (W2.drew.setRow w.heap.size L2.toArray)) := hd (below_setRow hB2.drew _ _ (Nat.le_refl _))
  have hz1 : ¬ ((i : Int) = (n : Int)) := by omega
  have hz2 : (i : Int) ≤ (n : Int) := by omega
  have hz3 : (n : Int) < (n : Int) + 1 := by omega
  have hGi : ¬ (G = i) := by omega
  have hGi2 : ¬ (G = i + 1) := by omega
  have hw1 : IntKind.i64.wrap ((i : Int) + 1) = (i : Int) + 1 := by rw [IntKind.wrap_i64]; omega
  have hw2 : (0 : Int) ≤ (i : Int) + 1 := by omega
  have hw3 : ((i : Int) + 1).toNat = i + 1 := by omega
  have hw4 : i ≤ n := by omega
  have hni : ¬ (n = i) := by omega
  unfold maxLen at hGm
  clear hpost hB2 hB1 hb1 hb2 hfin hfl hRt hRs hL1 hL2 hL1l hvl h1 h2 hv ho hgl hG hi0 hz hsz hby hxl hgw hvw
  go_enter Tryz.func63, Tryz.ntmps63
  go_wp2_with (first
    | (at_builtin; refine Lib.wpList_append_run _ rfl _ _ _ _ rfl _ _ rfl rfl _ _ (hrz _) ?_)
    | (at_builtin; refine wpList_copy_runI _ rfl _ _ 26 26 rfl _ _ rfl rfl (hcA _ _) ?_))
  go_region_law (refine step_copy_runI rfl _ _ 26 26 rfl (.slice (some ⟨w.heap.size, (i + 1) * 5, none⟩) (n + 1 - (i + 1)) (G - (i + 1))) (.slice (some ⟨g, i * 5, none⟩) (n - i) (n - i)) (by simp [Act.eval, Act.put]) (by simp [Act.eval, Act.put]) (hcB 3 (G - (i + 1)) (n - i)) ?_)
  go_wp2_with fail
  go_ret
  exact ⟨_, rfl, HP.out, HB3.out.os, HB3.out.tape, HB3.out.output, HB3.out.size, fun q hq _ => HB3.out.block q hq⟩

set_option maxRecDepth 100000 in
set_option maxHeartbeats 4000000 in
/-- Ahead of the end, with room: in place. -/
theorem insRoomQ {w : World} {B n i g c : Nat} {xs vs : List Value} {vb : Nat} (ho : w.ownsRow B 39 5 (.slice (some ⟨g, 0, none⟩) n c) n xs) (hv : Bk w vb 39 vs.toArray) (hvg : vb ≠ g) (hvl : vs.length = 5) (h1 : ∀ u ∈ vs, u.oneCell' = true) (h2 : ∀ u ∈ xs, u.oneCell' = true) (hi : i < n) (hn : n ≤ 100) (hc : n + 1 ≤ c) :
    Calls Tryz.prog 63 #[.slice (some ⟨g, 0, none⟩) n c, .int .i64 (i : Int), .slice (some ⟨vb, 0, none⟩) 1 1] w fun e w' => InsEnd w B 39 5 (some g) (n + 1) (xs.take (i * 5) ++ vs ++ xs.drop (i * 5)) e w' := by
  have hxl : xs.length = n * 5 := ho.1
  have hgl : ∀ j u, xs[j]? = some u → w.cell? ((⟨g, 0, none⟩ : Addr).add j) = some u := ho.cells rfl
  obtain ⟨hBg, hgw⟩ := ho.lt g rfl
  obtain ⟨cur, hgh, hcm, hcs, htk⟩ : ∃ cur, w.heap[g]? = some (.cells cur 39 (0, 0)) ∧ c ≤ maxLen ∧ cur.size = c * 5 ∧ cur.toList.take (n * 5) = xs := by
    rcases ho.2 with ⟨h, _⟩ | ⟨g', cap, cur, h, _, h3, _, h5, h6, h7⟩
    · cases h
    · injection h with e1 e2 e3
      injection e1 with e1
      injection e1 with e1 _ _
      subst e1 e3
      exact ⟨cur, h3, h5, h6, h7⟩
  obtain ⟨L1, hL1⟩ : ∃ L1, cur.toList.take (i * 5 + vs.length) ++ xs.drop (i * 5) ++ cur.toList.drop (i * 5 + vs.length + (xs.length - i * 5)) = L1 := ⟨_, rfl⟩
  have hcB : ∀ ty dc sc, (Builtin.copy_ #[26, 26] ty #[.slice (some ⟨g, (i + 1) * 5, none⟩) (n + 1 - (i + 1)) dc, .slice (some ⟨g, i * 5, none⟩) (n + 1 - i) sc]).run Tryz.prog w.drew = .ok (goInt ((n - i : Nat) : Int)) (w.drew.setRow g L1.toArray) := fun ty dc sc => by
    have h := run_copy_rowK w.drew 26 26 ty 39 5 g ((i + 1) * 5) (n + 1 - (i + 1)) dc ⟨g, i * 5, none⟩ (n + 1 - i) sc cur 39 (xs.drop (i * 5)) (n - i) Tryz.underlying26 isz34 hgh (by simp only [Nat.min_def]; split <;> omega) (by rw [List.length_drop, hxl]; omega)
      (fun j u hj => by
        rw [Addr.add_lit]
        show w.cell? _ = _
        rw [List.getElem?_drop] at hj
        have := hgl _ u hj
        rwa [Addr.add_lit, Nat.zero_add] at this) (by rw [List.length_drop, hxl, hcs]; omega) (fun u hu => h2 u (List.mem_of_mem_drop hu))
    rw [h, ← hL1, show (i + 1) * 5 = i * 5 + vs.length by rw [hvl]; omega, List.length_drop]
  have hL1l : L1.length = c * 5 := by rw [← hL1]; simp [hvl, hxl, hcs]; omega
  obtain ⟨W1, hW1⟩ : ∃ W1, w.drew.setRow g L1.toArray = W1 := ⟨_, rfl⟩
  have hb1 : W1.heap[g]? = some (.cells L1.toArray 39 (0, 0)) := by rw [← hW1]; exact setRow_heap w.drew _ _ _ 39 _ hgh
  have hvb1 : Bk W1 vb 39 vs.toArray := by rw [← hW1]; exact (setRow_other w.drew g vb _ hvg).trans hv
  have hg1 : w.grownBy W1 (some g) := by rw [← hW1]; exact ⟨rfl, rfl, rfl, by simp, fun q hq hne => setRow_other w.drew g q _ (fun e => hne (by rw [e]))⟩
  rw [hW1] at hcB
  obtain ⟨L2, hL2⟩ : ∃ L2, L1.take (i * 5) ++ vs ++ L1.drop (i * 5 + vs.length) = L2 := ⟨_, rfl⟩
  obtain ⟨hfin, hfl⟩ := splice_room cur.toList xs vs (i * 5) (by omega) (by rw [hxl]; exact htk) (by rw [hvl, hxl]; simp [hcs]; omega) L1 L2 hL1.symm hL2.symm
  have hcA : ∀ ty dc, (Builtin.copy_ #[26, 26] ty #[.slice (some ⟨g, i * 5, none⟩) (n + 1 - i) dc, .slice (some ⟨vb, 0, none⟩) 1 1]).run Tryz.prog W1 = .ok (goInt ((1 : Nat) : Int)) (W1.setRow g L2.toArray) := fun ty dc => by
    rw [run_copy_rowK W1 26 26 ty 39 5 g (i * 5) (n + 1 - i) dc ⟨vb, 0, none⟩ 1 1 L1.toArray 39 vs 1 Tryz.underlying26 isz34 hb1 (by simp only [Nat.min_def]; split <;> omega) (by rw [hvl])
      (fun j u hj => by rw [Addr.add_lit, Nat.zero_add, hvb1.cell]; simpa using hj) (by rw [hvl]; simp [hL1l]; omega) h1, hL2]
  have hpost : (W1.setRow g L2.toArray).ownsRow B 39 5 (.slice (some ⟨g, 0, none⟩) (n + 1) c) (n + 1) (xs.take (i * 5) ++ vs ++ xs.drop (i * 5)) :=
    ⟨by simp [hvl, hxl]; omega, Or.inr ⟨g, c, L2.toArray, rfl, hBg, setRow_heap W1 _ _ _ 39 _ hb1, hc, hcm, by simp [hfl, hcs], by rw [← hfin, hvl, hxl]; congr 1; omega⟩⟩
  have HP := hd hpost
  have HG : Hid (w.grownBy (W1.setRow g L2.toArray) (some g)) := hd ⟨hg1.os, hg1.tape, hg1.output, by simpa using hg1.size, fun q hq hne => (setRow_other W1 g q _ (fun e => hne (by rw [e]))).trans (hg1.block q hq hne)⟩
  have hov : ∀ lb cb, (callFunc 85 #[.slice (some ⟨vb, 0, none⟩) 1 1, .slice (some ⟨g, (i + 1) * 5, none⟩) lb cb]).run Tryz.prog w = .ok (.value (.bool false)) w := fun lb cb =>
    run117 w ⟨vb, 0, none⟩ ⟨g, (i + 1) * 5, none⟩ 1 1 lb cb hvg 39 39 5 (c * 5) (by rw [World.shape?, show w.heap[vb]? = _ from hv]; simp [hvl]) (by rw [World.shape?, hgh]; simp [hcs]) (by omega) (hv.fz 0) (hv.fz 5)
  have hz1 : ¬ ((i : Int) = (n : Int)) := by omega
  have hz2 : (i : Int) ≤ (n : Int) := by omega
  have hz3 : ¬ (c : Int) < (n : Int) + 1 := by omega
  have hz4 : (n : Int) + 1 ≤ (c : Int) := by omega
  have hz5 : (i : Int) ≤ (n : Int) + 1 := by omega
  have hGi : ¬ (c = i) := by omega
  have hGi2 : ¬ (c = i + 1) := by omega
  have hw1 : IntKind.i64.wrap ((i : Int) + 1) = (i : Int) + 1 := by rw [IntKind.wrap_i64]; omega
  have hw2 : (0 : Int) ≤ (i : Int) + 1 := by omega
  have hw3 : ((i : Int) + 1).toNat = i + 1 := by omega
  have hw4 : i ≤ n := by omega
  have hni : ¬ (n = i) := by omega
  unfold maxLen at hcm
  clear hpost hb1 hvb1 hg1 hfin hfl hL1 hL2 hL1l hv hvl hvg h1 h2 ho hgl hxl hgw hgh hcs htk hW1
  go_enter Tryz.func63, Tryz.ntmps63
  go_wp2_with (simp only [hov])
  go_region_law (refine step_copy_runI rfl _ _ 26 26 rfl (.slice (some ⟨g, (i + 1) * 5, none⟩) (n + 1 - (i + 1)) (c - (i + 1))) (.slice (some ⟨g, i * 5, none⟩) (n + 1 - i) (c - i)) (by simp [Act.eval, Act.put]) (by simp [Act.eval, Act.put]) (hcB 3 (c - (i + 1)) (c - i)) ?_)
  go_wp2_with (at_builtin; refine wpList_copy_runI _ rfl _ _ 26 26 rfl _ _ rfl rfl (hcA _ _) ?_)
  go_ret
  exact ⟨_, rfl, HP.out, HG.out⟩

end Go.Proofs.YtcigbfjmnhogiabGreatDoor
