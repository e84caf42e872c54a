/- The words of a line: next, name, label, rule, number, reader. -/
import Derived.Test.YtcigbfjmnhogiabGreatDoorPlc
import Derived.Test.YtcigbfjmnhogiabGreatDoorNb
import Derived.Test.YtcigbfjmnhogiabGreatDoorTc
import Derived.Laws.ResultCell
import Derived.Lib.AtoiAllCases
namespace Go.Proofs.YtcigbfjmnhogiabGreatDoor
open Go.RowKit
set_option linter.unusedVariables false

/-- From w to w' every block is as it was, but those of S, and new ones. -/
structure Kp (S : Nat → Prop) (w w' : World) : Prop where
  os : w'.os = w.os
  tape : w'.tape = w.tape
  output : w'.output = w.output
  size : w.heap.size ≤ w'.heap.size
  block : ∀ k, k < w.heap.size → ¬ S k → w'.heap[k]? = w.heap[k]?
theorem Kp.refl (S : Nat → Prop) (w : World) : Kp S w w := ⟨rfl, rfl, rfl, Nat.le_refl _, fun _ _ _ => rfl⟩
/-- What a later step may write besides is new to the first world. -/
theorem Kp.then {S S' : Nat → Prop} {a b c : World} (h : Kp S a b) (k : Kp S' b c) (hs : ∀ i, i < a.heap.size → S' i → S i) : Kp S a c :=
  ⟨k.os.trans h.os, k.tape.trans h.tape, k.output.trans h.output, Nat.le_trans h.size k.size,
    fun i hi hn => (k.block i (Nat.lt_of_lt_of_le hi h.size) (fun e => hn (hs i hi e))).trans (h.block i hi hn)⟩
theorem Kp.trans {S : Nat → Prop} {a b c : World} (h : Kp S a b) (k : Kp S b c) : Kp S a c := h.then k fun _ _ e => e
theorem Kp.below {S : Nat → Prop} {w w' : World} (h : Below w.heap.size w w') : Kp S w w' := ⟨h.os, h.tape, h.output, h.size, fun k hk _ => h.block k hk⟩
theorem Kp.belowB {S : Nat → Prop} {w w' : World} {B : Nat} (h : Kp S w w') (hB : B ≤ w.heap.size) (hs : ∀ k, k < B → ¬ S k) : Below B w w' := ⟨h.os, h.tape, h.output, h.size, fun k hk => h.block k (by omega) (hs k hk)⟩
theorem Kp.set {S : Nat → Prop} {a w : World} (h : Kp S a w) (p : Addr) (u : Value) (hp : p.block < a.heap.size → S p.block) : Kp S a (w.setCell p u) :=
  ⟨h.os, h.tape, h.output, Nat.le_trans h.size (by simp [World.setCell]), fun k hk hs => (Below.heap_setCell w p u k (fun e => hs (e ▸ hp (e ▸ hk)))).trans (h.block k hk hs)⟩
theorem Kp.grown {w w' : World} {row : Option Nat} (h : w.grownBy w' row) : Kp (fun k => row = some k) w w' := ⟨h.os, h.tape, h.output, h.size, fun k hk hne => h.block k hk (fun e => hne e.symm)⟩
theorem Bk.kp {S : Nat → Prop} {w w' : World} {b : Nat} {t : TypeId} {cs : Array Value} (h : Bk w b t cs) (k : Kp S w w') (hb : ¬ S b) : Bk w' b t cs := (k.block b h.lt hb).trans h
theorem Glob.kp {S : Nat → Prop} {w w' : World} {B : Nat} (h : Glob w) (k : Kp S w w') (hs : ∀ i, S i → 6 ≤ i) (h8 : 6 ≤ w.heap.size) : Glob w' := by
  obtain ⟨t, p, h1⟩ := h.syn
  obtain ⟨t', p', h2⟩ := h.rng
  have b4 := k.block 2 (by omega) (fun e => by have := hs 2 e; omega)
  have b5 := k.block 3 (by omega) (fun e => by have := hs 3 e; omega)
  have b1 : ∀ g, Tryz.prog.globalNamed "internal/strconv.uint64pow10" = some g → w'.heap[g]? = w.heap[g]? := fun g hg => by
    have e : Tryz.prog.globalNamed "internal/strconv.uint64pow10" = some 1 := by kernel_rfl
    rw [e] at hg
    injection hg with hg
    subst hg
    exact k.block 1 (by omega) (fun e => by have := hs 1 e; omega)
  refine ⟨?_, ⟨t, p, (World.cell?_of_block (w := w) (a := ⟨2, 0, none⟩) b4).trans h1⟩, ⟨t', p', (World.cell?_of_block (w := w) (a := ⟨3, 0, none⟩) b5).trans h2⟩⟩
  have h3 := h.pow
  unfold Lib.TabIs World.var? at h3 ⊢
  cases hg : Tryz.prog.globalNamed "internal/strconv.uint64pow10" with
  | none => rw [hg] at h3; cases h3
  | some g =>
    rw [hg] at h3
    simp only [Option.bind_some] at h3 ⊢
    rw [b1 g hg]
    exact h3

/-- The slice v holds these texts, in another block than wb. -/
def Ss (w : World) (wb G : Nat) (v : Value) (ps : List ByteArray) : Prop :=
  (∀ p ∈ ps, p.size ≤ 140737488355328) ∧ ((ps = [] ∧ ∃ x cap, v = .slice x 0 cap) ∨ ∃ g off cap, v = .slice (some ⟨g, off, none⟩) ps.length cap ∧ ps.length ≤ cap ∧ cap ≤ 100 ∧ g < G ∧ g ≠ wb ∧ ∀ (j : Nat) (hj : j < ps.length), w.cell? ⟨g, off + j, none⟩ = some (.string ps[j]))
/-- Block wb holds the words that were not taken off yet. -/
def Ws (w : World) (wb G : Nat) (ps : List ByteArray) : Prop := wb < G ∧ G ≤ w.heap.size ∧ ∃ v, Bk w wb 82 #[v] ∧ Ss w wb G v ps
theorem Ss.belowG {w w' : World} {wb G : Nat} {v : Value} {ps : List ByteArray} (h : Ss w wb G v ps) (k : Below G w w') : Ss w' wb G v ps := by
  obtain ⟨h0, h | ⟨g, off, cap, h1, h2, h3, h4, h5, h6⟩⟩ := h
  · exact ⟨h0, Or.inl h⟩
  · exact ⟨h0, Or.inr ⟨g, off, cap, h1, h2, h3, h4, h5, fun j hj => (below_cell k (p := ⟨g, off + j, none⟩) h4).trans (h6 j hj)⟩⟩
theorem Ws.belowG {w w' : World} {wb G : Nat} {ps : List ByteArray} (h : Ws w wb G ps) (k : Below G w w') : Ws w' wb G ps := by
  obtain ⟨h0, hG, v, h1, h2⟩ := h
  exact ⟨h0, Nat.le_trans hG k.size, v, h1.keepB k h0, h2.belowG k⟩
theorem Ws.below {w w' : World} {wb G : Nat} {ps : List ByteArray} (h : Ws w wb G ps) (k : Below w.heap.size w w') : Ws w' wb G ps := h.belowG (k.mono h.2.1)
theorem Ws.lt {w : World} {wb G : Nat} {ps : List ByteArray} (h : Ws w wb G ps) : wb < w.heap.size := Nat.lt_of_lt_of_le h.1 h.2.1
theorem Ws.bd {w : World} {wb G : Nat} {ps : List ByteArray} (h : Ws w wb G ps) : ∀ p ∈ ps, p.size ≤ 140737488355328 := by
  obtain ⟨_, _, v, _, h2⟩ := h
  exact h2.1

/-- The first word; none: one without bytes. -/
def hdW (ps : List ByteArray) : ByteArray := ps.headD ⟨#[]⟩
theorem hdW_bd {w : World} {wb G : Nat} {ps : List ByteArray} (h : Ws w wb G ps) : (hdW ps).size ≤ 140737488355328 := by
  cases ps with
  | nil => show (0 : Nat) ≤ _; omega
  | cons a t => exact h.bd a (by simp)

/-- How a method of the words ends. -/
def WdEnd (w : World) (wb G : Nat) (ps : List ByteArray) (v : Value) (e : Ending) (w' : World) : Prop := e = .returned v ∧ Ws w' wb G ps ∧ Kp (fun k => k = wb) w w'

set_option maxRecDepth 100000 in
set_option maxHeartbeats 2000000 in
theorem next_ok {w : World} {wb G : Nat} {ps : List ByteArray} (h : Ws w wb G ps) :
    Calls Tryz.prog 40 #[.pointer (some ⟨wb, 0, none⟩)] w fun e w' => WdEnd w wb G ps.tail (.string (hdW ps)) e w' := by
  obtain ⟨hwg, hG, v, hb, hbd, hs⟩ := h
  have HBD := hd hbd
  have HWG := hd hwg
  have HG := hd hG
  clear hwg hG
  have HB := hd hb
  clear hbd
  have c0 := hb.cell 0
  have f0 := hb.fz 0
  simp at c0
  clear hb
  rcases hs with ⟨rfl, x, cap, rfl⟩ | ⟨g, off, cap, rfl, h2, h3, h4, h5, h6⟩
  · go_enter Tryz.func40, Tryz.ntmps40
    go_wp2_with fail
    go_ret
    exact ⟨rfl, ⟨HWG.out, HG.out, _, HB.out, HBD.out, Or.inl ⟨rfl, _, _, rfl⟩⟩, Kp.refl _ _⟩
  · have H5 := hd h5
    have H6 := hd h6
    cases ps with
    | nil =>
      go_enter Tryz.func40, Tryz.ntmps40
      go_wp2_with fail
      go_ret
      exact ⟨rfl, ⟨HWG.out, HG.out, _, HB.out, HBD.out, Or.inl ⟨rfl, _, _, rfl⟩⟩, Kp.refl _ _⟩
    | cons p t =>
      have c1 := h6 0 (by simp)
      simp only [List.getElem_cons_zero, Nat.add_zero] at c1
      obtain ⟨n, hn⟩ : ∃ n, t.length = n := ⟨_, rfl⟩
      have HN := hd hn
      rw [List.length_cons, hn] at h2 HB
      simp only [List.length_cons, hn] at c0
      clear h6 hn
      have hn0 : ¬ ((n : Int) + 1 = 0) := by omega
      have hn1 : (0 : Int) < (n : Int) + 1 := by omega
      have hc1 : (1 : Int) ≤ (n : Int) + 1 := by omega
      have hnc : ((n : Int) + 1 == 0) = false := by rw [beq_eq_false_iff_ne]; omega
      by_cases hcap : cap = 1
      · have hn00 : n = 0 := by omega
        subst hn00 hcap
        go_enter Tryz.func40, Tryz.ntmps40
        go_wp2_with fail
        go_ret
        refine ⟨rfl, ⟨HWG.out, by simpa [World.setCell] using HG.out, _, HB.out.set 0 _, fun q hq => HBD.out q (List.mem_cons_of_mem _ hq), Or.inl ⟨List.eq_nil_of_length_eq_zero HN.out, _, _, rfl⟩⟩, (Kp.refl _ _).set _ _ (fun _ => rfl)⟩
      · go_enter Tryz.func40, Tryz.ntmps40
        go_wp2_with fail
        go_ret
        have HL := H6.out
        refine ⟨rfl, ⟨HWG.out, by simpa [World.setCell] using HG.out, _, HB.out.set 0 _, fun q hq => HBD.out q (List.mem_cons_of_mem _ hq), Or.inr ⟨g, off + 1, cap - 1, ?_, ?_, by omega, h4, H5.out, fun j hj => ?_⟩⟩, (Kp.refl _ _).set _ _ (fun _ => rfl)⟩
        · rw [List.tail_cons, HN.out]
        · rw [List.tail_cons, HN.out]; omega
        · rw [List.tail_cons] at hj
          have h7 := HL (j + 1) (by simpa using hj)
          rw [World.cell?_of_block (a := ⟨g, off + 1 + j, none⟩) (heap_setCell_other w ⟨wb, 0, none⟩ _ _ H5.out)]
          rw [show off + 1 + j = off + (j + 1) by omega]
          simpa using h7

set_option maxRecDepth 100000 in
set_option maxHeartbeats 1000000 in
theorem name_ok {w : World} {wb G : Nat} {ps : List ByteArray} (h : Ws w wb G ps) :
    Calls Tryz.prog 56 #[.pointer (some ⟨wb, 0, none⟩)] w fun e w' => WdEnd w wb G ps.tail (.string (hdW ps)) e w' := by
  have H := hd h
  have HS := hd (hdW_bd h)
  clear h
  go_enter Tryz.func56, Tryz.ntmps56
  go_wp2_with fail
  refine (next_ok H.out).mono ?_
  rintro e w2 ⟨rfl, h2, k2⟩
  have H2 := hd h2
  have K2 := hd k2
  clear h2 k2
  go_wp2_with fail
  refine (sclone_ok _ _ (by have := HS.out; omega)).mono ?_
  rintro e w3 ⟨rfl, hk⟩
  have H3 := hd (H2.out.below hk)
  have K3 := hd (K2.out.trans (Kp.below hk))
  clear hk
  go_wp2_with fail
  go_ret
  exact ⟨rfl, H3.out, K3.out⟩

def cndX (s : ByteArray) : Nat := (wr3 (bt s 0)).toNat
def cndP (s : ByteArray) : Nat := if s.size = 1 then 0 else (val4 (s.extract 2 10) 8).toNat
/-- The label of a text, or none. -/
def rdL (s : ByteArray) : Option (Nat × Nat) :=
  if cndX s ≤ 7 ∧ cndP s < 4294967296 ∧ s.data.toList = (textOf (cndX s) (cndP s)).data.toList then some (cndX s, cndP s) else none

theorem rdL_text (x p : Nat) (hx : x ≤ 7) (hp : p < 4294967296) : rdL (textOf x p) = some (x, p) := by
  have hb : bt (textOf x p) 0 = (fgc x).toNat := by
    unfold textOf
    split <;> rfl
  have h3 := wr3_fgc ⟨x, by omega⟩
  simp only at h3
  have hX : cndX (textOf x p) = x := by
    unfold cndX
    rw [hb, h3]
    exact Int.toNat_natCast x
  have hv : cndP (textOf x p) = p := by
    unfold cndP
    by_cases h0 : p = 0
    · rw [if_pos (by unfold textOf; rw [if_pos h0]; rfl), h0]
    · have e : textOf x p = ⟨(fgc x :: 58 :: text8 p).toArray⟩ := by unfold textOf; rw [if_neg h0]
      rw [e, if_neg (by show ¬ (10 = 1); omega), ext_tail, (of_text8 p hp).2]
      omega
  unfold rdL
  rw [hX, hv, if_pos ⟨hx, hp, rfl⟩]

theorem rdL_some {s : ByteArray} {x p : Nat} (h : rdL s = some (x, p)) : x ≤ 7 ∧ p < 4294967296 ∧ s = textOf x p := by
  unfold rdL at h
  by_cases hc : cndX s ≤ 7 ∧ cndP s < 4294967296 ∧ s.data.toList = (textOf (cndX s) (cndP s)).data.toList
  · rw [if_pos hc] at h
    simp only [Option.some.injEq, Prod.mk.injEq] at h
    obtain ⟨h1, h2⟩ := h
    rw [h1, h2] at hc
    exact ⟨hc.1, hc.2.1, ba_ext hc.2.2⟩
  · rw [if_neg hc] at h
    cases h

/-- A label read, and an error's number. -/
def leO : Option (Nat × Nat) → Value
  | some (x, p) => le x p 0
  | none => le 0 0 4

theorem vread_is (s : ByteArray) (w : World) (hb : s.size ≤ 140737488355328) : Calls Tryz.prog 75 #[.string s] w fun e w' => VEnd w (leO (rdL s)) e w' := by
  obtain ⟨X, P, E, hr, hc⟩ := vread_any s hb
  have e : le X P E = leO (rdL s) := by
    rcases hr with ⟨x, p, hx, hp, rfl, rfl, rfl, rfl⟩ | ⟨hn, rfl, rfl, rfl⟩
    · rw [rdL_text x p hx hp]; rfl
    · cases hh : rdL s with
      | none => rfl
      | some q =>
        obtain ⟨x, p⟩ := q
        obtain ⟨h1, h2, h3⟩ := rdL_some hh
        exact absurd h3 (hn x p h1 h2)
  rw [← e]
  exact hc w

/-- A label taken off, and whether there was one. -/
def lbO : Option (Nat × Nat) → Value
  | some (x, p) => .tuple #[.agg #[.int .i64 (x : Int), .int .u32 (p : Int)], .bool true]
  | none => .tuple #[.agg #[.int .i64 0, .int .u32 0], .bool false]

theorem res_lab_bool {fn : Func} {p u : Tmp} (h : fn.results = #[.cell p 35, .tmp u]) (tmps : Array Value) (w : World) (g : Nat) (x y : Int)
    (hp : tmps.getD p undef = .pointer (some ⟨g, 0, none⟩)) (hg : Lb w g x y) :
    (results fn tmps).run Tryz.prog w = .ok (.tuple #[.agg #[.int .i64 x, .int .u32 y], tmps.getD u undef]) w := res_lab_err h tmps w g x y hp hg

theorem lab_core {w : World} {wb G : Nat} {ps : List ByteArray} (h : Ws w wb G ps) (X P E : Int) (b : Bool) (hb : b = (E == 0)) (hc : ∀ w, Calls Tryz.prog 75 #[.string (hdW ps)] w fun e w' => VEnd w (le X P E) e w') :
    Calls Tryz.prog 57 #[.pointer (some ⟨wb, 0, none⟩)] w fun e w' => WdEnd w wb G ps.tail (.tuple #[.agg #[.int .i64 X, .int .u32 P], .bool b]) e w' := by
  have H := hd h
  have HC := hd hc
  have HB := hd hb
  have HW := hd h.lt
  have HGG := hd h.2.1
  clear h hc hb
  go_enter Tryz.func57, Tryz.ntmps57
  go_wp2_with fail
  have A1 := Lb.new w 0 0
  have B1 := below1 w (Obj.cells #[Value.int IntKind.i64 0, Value.int IntKind.u32 0] 35)
  generalize w.alloc (Obj.cells #[Value.int IntKind.i64 0, Value.int IntKind.u32 0] 35) = w1 at *
  have hne : w.heap.size ≠ wb := by have := HW.out; omega
  have HNE := hd hne
  clear hne
  refine (next_ok (H.out.below B1)).mono ?_
  rintro e w2 ⟨rfl, h2, k2⟩
  have H2 := hd h2
  have K2 := hd ((Kp.below (S := fun k => k = wb) B1).trans k2)
  have A2 : Lb w2 w.heap.size 0 0 := (k2.block _ A1.lt HNE.out).trans A1
  clear h2 k2 A1 B1
  go_wp2_with fail
  refine (HC.out w2).mono ?_
  rintro e w3 ⟨rfl, hk⟩
  have H3 := hd (H2.out.below hk)
  have K3 := hd (K2.out.trans (Kp.below hk))
  have A3 := A2.keep hk
  have A4 := A3.alloc (Obj.cells #[Value.int IntKind.i64 X, Value.int IntKind.u32 P] 35)
  have c0 := A4.c0
  have c1 := A4.c1
  have f0 := A4.fz 0
  have f1 := A4.fz 1
  have N4 := Lb.new w3 X P
  have n0 := N4.c0
  have n1 := N4.c1
  have H4 := hd (H3.out.below (below1 w3 (Obj.cells #[Value.int IntKind.i64 X, Value.int IntKind.u32 P] 35)))
  have K4 := hd (K3.out.trans (Kp.below (below1 w3 (Obj.cells #[Value.int IntKind.i64 X, Value.int IntKind.u32 P] 35))))
  have HA4 := hd A4
  clear hk A2 A3 A4 N4 H3 K3
  unfold le
  go_wp2_with fail
  refine bodyPost_ret (res_lab_bool rfl _ _ w.heap.size _ _ rfl ((HA4.out.set0 _).set1 _)) rfl ?_
  refine ⟨by rw [HB.out]; rfl, ?_, (K4.out.set _ _ (fun h => absurd h (by simp))).set _ _ (fun h => absurd h (by simp))⟩
  have hsz : G ≤ w.heap.size := HGG.out
  have hb := below_set2 (Below.refl G (w3.alloc (Obj.cells #[Value.int IntKind.i64 X, Value.int IntKind.u32 P] 35))) w.heap.size (.int .i64 X) (.int .u32 P) hsz
  exact H4.out.belowG hb

theorem label_ok {w : World} {wb G : Nat} {ps : List ByteArray} (h : Ws w wb G ps) :
    Calls Tryz.prog 57 #[.pointer (some ⟨wb, 0, none⟩)] w fun e w' => WdEnd w wb G ps.tail (lbO (rdL (hdW ps))) e w' := by
  have hc := fun w => vread_is (hdW ps) w (hdW_bd h)
  cases hr : rdL (hdW ps) with
  | none =>
    rw [hr] at hc
    exact lab_core h 0 0 4 false rfl hc
  | some q =>
    obtain ⟨x, p⟩ := q
    rw [hr] at hc
    exact lab_core h x p 0 true rfl hc

/-- What a line says of a rule, and whether that may be. -/
def ruleP (ps : List ByteArray) : RuleD × Bool :=
  match rdL (hdW ps.tail) with
  | some (x, p) => ((hdW ps, (x : Int), (p : Int)), isNm (hdW ps))
  | none => ((hdW ps, 0, 0), false)
def rV (r : RuleD) : Value := .agg #[.string r.1, .int .i64 r.2.1, .int .u32 r.2.2]


end Go.Proofs.YtcigbfjmnhogiabGreatDoor
