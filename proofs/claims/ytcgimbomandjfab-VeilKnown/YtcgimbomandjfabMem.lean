/- Words for memory: rows of bytes that are read, and what a call keeps. -/
import Derived.WalkKit
import Derived.WalkSpells
import Derived.WalkLawsBesides
import Derived.Deep.AppendSrc
namespace Go.Proofs.Ytcgimbomandjfab
open Go.RowKit

theorem hd {p : Prop} (h : p) : Hid p := h

/-- A list of bytes. -/
def Byt (l : List Int) : Prop := ∀ x ∈ l, 0 ≤ x ∧ x ≤ 255

/-- In the world w the slice v holds the bytes l; its block, if it has one, is one of A. -/
def Bs (A : Nat → Prop) (w : World) (v : Value) (l : List Int) : Prop :=
  Byt l ∧ l.length ≤ 140737488355328 ∧ ((v = .slice none 0 0 ∧ l = []) ∨
    ∃ b off cap, v = .slice (some ⟨b, off, none⟩) l.length cap ∧ l.length ≤ cap ∧ A b ∧ b < w.heap.size ∧ ∀ i, i < l.length → w.cell? ⟨b, off + i, none⟩ = some (.int .u8 (l.getD i 0)))

/-- The first n cells of the slice v may be written. -/
def Fr (w : World) (v : Value) (n : Nat) : Prop :=
  ∀ b off len cap, v = .slice (some ⟨b, off, none⟩) len cap → ∀ i, i < n → w.frozen? ⟨b, off + i, none⟩ = false

/-- From w to w' every block is as it was, but those of S, and new ones. -/
structure Kp (S : Nat → Prop) (w w' : World) : Prop where
  os : w'.os = w.os
  tape : w'.tape = w.tape
  output : w'.output = w.output
  size : w.heap.size ≤ w'.heap.size
  block : ∀ k, k < w.heap.size → ¬ S k → w'.heap[k]? = w.heap[k]?

theorem Kp.refl (S : Nat → Prop) (w : World) : Kp S w w := ⟨rfl, rfl, rfl, Nat.le_refl _, fun _ _ _ => rfl⟩

theorem Kp.trans {S : Nat → Prop} {a b c : World} (h : Kp S a b) (k : Kp S b c) : Kp S a c :=
  ⟨k.os.trans h.os, k.tape.trans h.tape, k.output.trans h.output, Nat.le_trans h.size k.size,
    fun i hi hs => (k.block i (Nat.lt_of_lt_of_le hi h.size) hs).trans (h.block i hi hs)⟩

theorem Kp.mono {S S' : Nat → Prop} {w w' : World} (h : Kp S w w') (hs : ∀ k, k < w.heap.size → S k → S' k) : Kp S' w w' :=
  ⟨h.os, h.tape, h.output, h.size, fun k hk hn => h.block k hk (fun e => hn (hs k hk e))⟩

/-- What a later step may write is new to the first world. -/
theorem Kp.then {S S' : Nat → Prop} {a b c : World} (h : Kp S a b) (k : Kp S' b c) (hs : ∀ i, i < a.heap.size → S' i → S i) : Kp S a c :=
  ⟨k.os.trans h.os, k.tape.trans h.tape, k.output.trans h.output, Nat.le_trans h.size k.size,
    fun i hi hn => (k.block i (Nat.lt_of_lt_of_le hi h.size) (fun e => hn (hs i hi e))).trans (h.block i hi hn)⟩

theorem Kp.drew {S : Nat → Prop} {a w : World} (h : Kp S a w) : Kp S a w.drew := ⟨h.os, h.tape, h.output, h.size, h.block⟩

theorem Kp.alloc {S : Nat → Prop} {a w : World} (h : Kp S a w) (o : Obj) : Kp S a (w.alloc o) :=
  ⟨h.os, h.tape, h.output, Nat.le_trans h.size (by simp), fun k hk hs => (Below.heap_alloc w o k (Nat.lt_of_lt_of_le hk h.size)).trans (h.block k hk hs)⟩

theorem Kp.setCell {S : Nat → Prop} {a w : World} (h : Kp S a w) (p : Addr) (u : Value) (hp : p.block < a.heap.size → S p.block) : Kp S a (w.setCell p u) :=
  ⟨h.os, h.tape, h.output, Nat.le_trans h.size (by simp [World.setCell]), fun k hk hs => (Below.heap_setCell w p u k (fun e => hs (e ▸ hp (e ▸ hk)))).trans (h.block k hk hs)⟩

theorem Kp.cell {S : Nat → Prop} {w w' : World} (h : Kp S w w') {p : Addr} (hp : p.block < w.heap.size) (hs : ¬ S p.block) : w'.cell? p = w.cell? p :=
  World.cell?_of_block (w := w) (h.block p.block hp hs)

theorem Kp.frozen {S : Nat → Prop} {w w' : World} (h : Kp S w w') {p : Addr} (hp : p.block < w.heap.size) (hs : ¬ S p.block) : w'.frozen? p = w.frozen? p :=
  World.frozen?_of_block (w := w) (h.block p.block hp hs)

theorem Kp.below {S : Nat → Prop} {w w' : World} (h : Kp S w w') (B : Nat) (hB : B ≤ w.heap.size) (hs : ∀ k, k < B → ¬ S k) : Below B w w' :=
  ⟨h.os, h.tape, h.output, h.size, fun k hk => h.block k (by omega) (hs k hk)⟩

theorem kpB {w w' : World} (h : Below w.heap.size w w') (S : Nat → Prop) : Kp S w w' :=
  ⟨h.os, h.tape, h.output, h.size, fun k hk _ => h.block k hk⟩

theorem Bs.keep {A : Nat → Prop} {S : Nat → Prop} {w w' : World} {v : Value} {l : List Int} (h : Bs A w v l) (k : Kp S w w') (hs : ∀ b, b < w.heap.size → A b → ¬ S b) : Bs A w' v l := by
  obtain ⟨h1, h2, h3⟩ := h
  refine ⟨h1, h2, ?_⟩
  rcases h3 with h3 | ⟨b, off, cap, hv, hc, ha, hb, hcell⟩
  · exact Or.inl h3
  · refine Or.inr ⟨b, off, cap, hv, hc, ha, Nat.lt_of_lt_of_le hb k.size, fun i hi => ?_⟩
    rw [k.cell (p := ⟨b, off + i, none⟩) hb (hs b hb ha)]
    exact hcell i hi

theorem Bs.weaken {A A' : Nat → Prop} {w : World} {v : Value} {l : List Int} (h : Bs A w v l) (hs : ∀ b, b < w.heap.size → A b → A' b) : Bs A' w v l := by
  obtain ⟨h1, h2, h3⟩ := h
  refine ⟨h1, h2, ?_⟩
  rcases h3 with h3 | ⟨b, off, cap, hv, hc, ha, hb, hcell⟩
  · exact Or.inl h3
  · exact Or.inr ⟨b, off, cap, hv, hc, hs b hb ha, hb, hcell⟩

theorem Bs.len {A : Nat → Prop} {w : World} {v : Value} {l : List Int} (h : Bs A w v l) : ∃ a cap, v = .slice a l.length cap := by
  obtain ⟨_, _, h3⟩ := h
  rcases h3 with ⟨hv, hl⟩ | ⟨b, off, cap, hv, _⟩
  · subst hl; exact ⟨none, 0, hv⟩
  · exact ⟨_, _, hv⟩

theorem Byt.get {l : List Int} (h : Byt l) (i : Nat) : 0 ≤ l.getD i 0 ∧ l.getD i 0 ≤ 255 := by
  by_cases hi : i < l.length
  · rw [List.getD_eq_getElem?_getD, List.getElem?_eq_getElem hi, Option.getD_some]
    exact h _ (List.getElem_mem hi)
  · rw [List.getD_eq_getElem?_getD, List.getElem?_eq_none (by omega)]
    exact ⟨by decide, by decide⟩

theorem Byt.drop {l : List Int} (h : Byt l) (n : Nat) : Byt (l.drop n) := fun x hx => h x (List.mem_of_mem_drop hx)
theorem Byt.take {l : List Int} (h : Byt l) (n : Nat) : Byt (l.take n) := fun x hx => h x (List.mem_of_mem_take hx)
theorem Byt.nil : Byt [] := fun _ hx => by cases hx
theorem Byt.append {l m : List Int} (h : Byt l) (k : Byt m) : Byt (l ++ m) := fun x hx => by
  rcases List.mem_append.1 hx with hx | hx
  · exact h x hx
  · exact k x hx

/-- The cells of a row of bytes. -/
def u8s (l : List Int) : Array Value := (l.map (Value.int .u8)).toArray

theorem u8s_get (l : List Int) (i : Nat) (h : i < l.length) : (u8s l)[i]? = some (.int .u8 (l.getD i 0)) := by
  unfold u8s
  simp [List.getElem?_eq_getElem h]

/-- A new block of bytes is a row of these bytes. -/
theorem Bs.fresh (w : World) (l : List Int) (e : TypeId) (cap : Nat) (hl : Byt l) (hb : l.length ≤ 140737488355328) (hc : l.length ≤ cap) (more : Array Value) (A : Nat → Prop) (hA : A w.heap.size) :
    Bs A (w.alloc (.cells (u8s l ++ more) e)) (.slice (some ⟨w.heap.size, 0, none⟩) l.length cap) l := by
  refine ⟨hl, hb, Or.inr ⟨_, _, _, rfl, hc, hA, by simp, fun i hi => ?_⟩⟩
  have hs : i < (u8s l).size := by simp [u8s]; exact hi
  rw [World.cell?_alloc_at (w := w) _ _ _ _ rfl, Array.getElem?_append_left (by simpa using hs)]
  simpa using u8s_get l i hi

theorem Bs.fresh0 (w : World) (l : List Int) (e : TypeId) (cap : Nat) (hl : Byt l) (hb : l.length ≤ 140737488355328) (hc : l.length ≤ cap) (A : Nat → Prop) (hA : A w.heap.size) :
    Bs A (w.alloc (.cells (u8s l) e)) (.slice (some ⟨w.heap.size, 0, none⟩) l.length cap) l := by
  have h := Bs.fresh w l e cap hl hb hc #[] A hA
  simpa using h

theorem Bs.drew {A : Nat → Prop} {w : World} {v : Value} {l : List Int} (h : Bs A w v l) : Bs A w.drew v l :=
  h.keep ((Kp.refl (fun _ => False) w).drew) (fun _ _ _ h => h)

theorem Fr.ofNil (w : World) (l c n : Nat) : Fr w (.slice none l c) n := fun _ _ _ _ hv => by cases hv
theorem Fr.zero (w : World) (v : Value) : Fr w v 0 := fun _ _ _ _ _ i hi => absurd hi (Nat.not_lt_zero i)

/-- A built-in append whose run is known. -/
theorem wpList_append_run {P : Program} (w : World) {ops : Array Oper} {rest : List Oper} {o : Oper} {a : Act} {Q : Exit → Act → World → Prop}
    (hg : o.guard = none) (s x : Operand) (t tx : TypeId) (hop : o.op = Op.call { callee := Callee.builtin Builtin.append, args := #[s, x], argTypes := #[t, tx] })
    (vs vx : Value) (hs : a.eval s = vs) (hx : a.eval x = vx) (v' : Value) (w' : World) (hrun : (Builtin.append_ #[t, tx] o.type #[vs, vx]).run P w = .ok v' w')
    (hK : wpList P ops Q rest (a.put o.dst v') w') : wpList P ops Q (o :: rest) a w := by
  refine wpList_plain hg fun K hK' => ?_
  unfold Oper.wp
  simp [execOp, hop, resolve, invoke, builtin, hs, hx, hrun, Result.andThen]
  exact hK' _ _ hK

theorem src_bs {P : Program} {A : Nat → Prop} {w : World} {v : Value} {l : List Int} {t e : TypeId} (hk : P.underlying t = some (.slice e)) (h : Bs A w v l) :
    Src P 1 t v l.length (l.map (Value.int .u8)) w := by
  obtain ⟨_, _, h3⟩ := h
  rcases h3 with ⟨hv, hl⟩ | ⟨b, off, cap, hv, _, _, _, hc⟩
  · subst hv; subst hl; exact Src.ofNil w hk 0
  · subst hv
    refine Src.ofSlice w hk ⟨b, off, none⟩ l.length cap _ (by simp) (fun j u hj => ?_) (fun u hu => ?_)
    · have hj' : j < l.length := by
        by_cases hh : j < l.length
        · exact hh
        · rw [List.getElem?_eq_none (by simp; omega)] at hj; cases hj
      have := hc j hj'
      rw [List.getElem?_map, List.getElem?_eq_getElem hj'] at hj
      simp only [Option.map_some, Option.some.injEq] at hj
      rw [List.getD_eq_getElem?_getD, List.getElem?_eq_getElem hj', Option.getD_some] at this
      rw [← hj, Addr.add_lit]
      exact this
    · obtain ⟨_, _, rfl⟩ := List.mem_map.1 hu
      rfl

/-- An append onto a row of bytes without spare room, of at least one byte: a new row. -/
theorem append_grow {P : Program} {w : World} {t tx ty e : TypeId} {i : TypeInfo} (ht : P.underlying t = some (.slice e)) (hi : P.info? e = some i) (hz : i.zero = some (.int .u8 0)) (hs1 : i.size = 1) (hb1 : i.bytes = 1)
    {A : Nat → Prop} {a : Option Addr} {ld l : List Int} {x : Value} (hd : Bs A w (.slice a ld.length ld.length) ld) (hx : Src P 1 tx x l.length (l.map (Value.int .u8)) w) (hl : Byt l) (h0 : 0 < l.length) (hb : ld.length + l.length ≤ 140737488355328) :
    ∃ v' w', (Builtin.append_ #[t, tx] ty #[.slice a ld.length ld.length, x]).run P w = .ok v' w' ∧ Bs (fun b => w.heap.size ≤ b) w' v' (ld ++ l) ∧ Fr w' v' (ld ++ l).length ∧ Below w.heap.size w w' := by
  have hold : (Builtin.firstCells i.size ld.length (.slice a ld.length ld.length)).run P w.drew = .ok (ld.map (Value.int .u8)).toArray w.drew := by
    have h := (src_bs (P := P) (t := t) ht hd).cellsD
    rw [hs1]; exact h
  have hfit : Builtin.nextslicecap (ld.length + l.length) ld.length * i.bytes ≤ 281474976710656 := growslice_fits (by omega) (by rw [hb1]; omega)
  have hrun := run_append_grow_src (P := P) w t tx ty e i (.int .u8 0) ht hi hz a ld.length ld.length _ hold x l.length _ (by rw [hs1]; exact hx) (by omega) (by omega) hfit
  refine ⟨_, _, hrun, ?_, ?_, ?_⟩
  · have h := Bs.fresh w.drew (ld ++ l) e (grownCap w (ld.length + l.length) ld.length e) (hd.1.append hl) (by simpa using hb) (by simpa using grownCap_ge w (ld.length + l.length) ld.length e) (Builtin.zeroCells (Value.int .u8 0).cells (grownCap w (ld.length + l.length) ld.length e - (ld.length + l.length))) (fun b => w.heap.size ≤ b) (Nat.le_refl _)
    rw [List.length_append] at h
    unfold u8s at h
    rw [List.map_append] at h
    exact h
  · intro b off len cap hv j _
    simp only [Value.slice.injEq, Option.some.injEq, Addr.mk.injEq] at hv
    obtain ⟨⟨hb', _, _⟩, _, _⟩ := hv
    rw [← hb']
    exact World.frozen?_alloc_at (w := w.drew) _ _ _ _ rfl
  · exact ((Below.refl _ _).drew).alloc (by simp) _

/-- An append of nothing onto a row that is there. -/
theorem append_none {P : Program} {w : World} {t tx ty e : TypeId} {i : TypeInfo} (ht : P.underlying t = some (.slice e)) (hi : P.info? e = some i) (hs1 : i.size = 1)
    (b off n cap : Nat) {x : Value} (hx : Src P 1 tx x 0 [] w) (hc : n ≤ cap) :
    (Builtin.append_ #[t, tx] ty #[.slice (some ⟨b, off, none⟩) n cap, x]).run P w = .ok (.slice (some ⟨b, off, none⟩) n cap) w := by
  exact run_append_room_src (P := P) w t tx ty e i ht hi b off n cap x 0 [] (by rw [hs1]; exact hx) (by simpa using hc) (fun j hj => by cases hj) (fun j hj => by cases hj)

end Go.Proofs.Ytcgimbomandjfab
