/- What BatchKnown writes: one cell of a span that lies alone, spans appended, zeros appended. -/
import Derived.Test.YteifaipbckhoiabZsa
import Derived.Lib.AppendZerosOnto
namespace Go.Proofs.Yteifaipbckhoiab
open Go.RowKit
set_option linter.unusedVariables false

theorem OwB.kpx {B rb : Nat} {w w' : World} {c : Value} {qs : List SpanV} (h : OwB B w c qs) (k : Kp (fun b => b = rb) w w') (h1 : ∀ g, c.ownBlock = some g → g ≠ rb) (h2 : ∀ q ∈ qs, ∀ g, q.2.ownBlock = some g → g ≠ rb) : OwB B w' c qs :=
  ⟨h.own.grown (row := some rb) ⟨k.os, k.tape, k.output, k.size, fun i hi hn => k.block i hi (fun e => hn (by rw [e]))⟩ (by
    cases hv : c.ownBlock with
    | none => exact Or.inl rfl
    | some g => exact Or.inr fun e => h1 g hv (Option.some.inj e)), fun q hq => (h.ats q hq).kp k (h2 q hq), h.sep, h.pw⟩
theorem El.nilA (w : World) : El encA 6 w (.slice none 0 0) [] := Or.inl ⟨rfl, none, 0, rfl⟩
/-- One cell of the only span is written. -/
theorem one_set {B b f : Nat} {w : World} {s : SpanD} {v u : Value} (h : OwB B w (.slice (some ⟨b, 0, none⟩) 1 1) [(s, v)]) (hf : f < 9) (y : SpanV) (he : encS y = (encS (s, v)).set f u) (ha : El encA 6 (w.setCell ⟨b, f, none⟩ u) y.2 y.1.ats) : Sps (w.setCell ⟨b, f, none⟩ u) (.slice (some ⟨b, 0, none⟩) 1 1) [y] := by
  have h1 := own_set lenS h.own.2 (i := 0) (f := f) (by simp) hf (y := y) (u := u) (by simpa using he)
  rw [Nat.zero_mul, Nat.zero_add] at h1
  exact ⟨el_of_own lenS h1 (by simp), fun q hq => by obtain rfl := List.mem_singleton.1 hq; exact ha⟩
theorem one_cell {B b : Nat} {w : World} {q : SpanV} (h : OwB B w (.slice (some ⟨b, 0, none⟩) 1 1) [q]) (f : Nat) {u : Value} (he : (encS q)[f]? = some u) : w.cell? ⟨b, f, none⟩ = some u := by
  have h1 := h.cell (i := 0) (by simp) f (u := u) (by simpa using he)
  rwa [Nat.zero_mul, Nat.zero_add] at h1
theorem one_fz {B b : Nat} {w : World} {q : SpanV} (h : OwB B w (.slice (some ⟨b, 0, none⟩) 1 1) [q]) (f : Nat) : w.frozen? ⟨b, f, none⟩ = false := own_fz h.own.2 f

/-- A row of its own of spans: one more. -/
theorem OwS.app {B g : Nat} {w : World} {c : Value} {qs : List SpanV} {q : SpanV} (h : OwS B w c qs) (hx : Bk w g 36 (encS q).toArray) (h1 : q.2.oneCell' = true) (hB : B ≤ w.heap.size) (hn : (qs.length + 1) * 112 ≤ 140737488355328) (ty : TypeId) :
    ∃ c' w', (Builtin.append_ #[22, 22] ty #[c, .slice (some ⟨g, 0, none⟩) 1 1]).run Try.prog w = .ok c' w' ∧ OwS B w' c' (qs ++ [q]) ∧ Below B w w' := by
  obtain ⟨i, z, hi, hz, hzs, hs, hby⟩ := infoS9
  obtain ⟨c', w', hr, ho, hg, _, hw⟩ := run_append_own_at (P := Try.prog) w B 22 ty 36 i z 9 112 Try.underlying22 hi hz hs hby hzs (by omega) c qs.length (fl encS qs) h.2 ⟨g, 0, none⟩ 1 1 (encS q) (by rw [lenS])
    (fun j u hj => by rw [Addr.add_lit, Nat.zero_add, hx.cell j, List.getElem?_toArray]; exact hj) (oneS q h1) (by simp only [maxLen]; omega) (by omega) hB
  refine ⟨c', w', hr, ⟨by rw [List.length_append]; exact hn, ?_⟩, below_grown hg hB (fun k hk => (h.2.lt k hk).1)⟩
  rw [List.length_append, fl_append, fl_one]
  exact ho
theorem OwS.nil (B : Nat) (w : World) : OwS B w (.slice none 0 0) [] := ⟨by simp, World.ownsRow_nil w B 36 9⟩
theorem OwS.keep {B : Nat} {w w' : World} {c : Value} {qs : List SpanV} (h : OwS B w c qs) (k : Below w.heap.size w w') : OwS B w' c qs :=
  h.grown (row := none) ⟨k.os, k.tape, k.output, k.size, fun i hi _ => k.block i hi⟩ (by cases hv : c.ownBlock <;> simp)
theorem OwS.kp {B rb : Nat} {w w' : World} {c : Value} {qs : List SpanV} (h : OwS B w c qs) (k : Kp (fun b => b = rb) w w') (hb : rb < B) : OwS B w' c qs :=
  h.grown (row := some rb) ⟨k.os, k.tape, k.output, k.size, fun i hi hn => k.block i hi (fun e => hn (by rw [e]))⟩ (by
    cases hv : c.ownBlock with
    | none => exact Or.inl rfl
    | some g => refine Or.inr fun e => ?_; injection e with e; have := (h.2.lt g hv).1; omega)
theorem OwA.far {B N : Nat} {w w' : World} {v : Value} {xs : List AttrD} (h : OwA B w v xs) (k : Below N w w') (hb : ∀ g, v.ownBlock = some g → g < N) : OwA B w' v xs := by
  refine ⟨h.1, h.2.1, ?_⟩
  rcases h.2.2 with h1 | ⟨g, cap, cur, rfl, hg, hh, hr⟩
  · exact Or.inl h1
  · exact Or.inr ⟨g, cap, cur, rfl, hg, (k.block g (hb g rfl)).trans hh, hr⟩
theorem OwA.app' {B g : Nat} {w : World} {v : Value} {xs : List AttrD} {a : AttrD} (h : OwA B w v xs) (hx : Bk w g 44 (encA a).toArray) (hB : B ≤ w.heap.size) (hn : xs.length < 1000) (ty : TypeId) :
    ∃ v' w', (Builtin.append_ #[34, 34] ty #[v, .slice (some ⟨g, 0, none⟩) 1 1]).run Try.prog w = .ok v' w' ∧ OwA B w' v' (xs ++ [a]) ∧ Below B w w' ∧ Kp (fun b => v.ownBlock = some b) w w' := by
  obtain ⟨i, z, hi, hz, hzs, hs, hby⟩ := info35f
  obtain ⟨v', w', hr, ho, hg, _, hw⟩ := run_append_own_at (P := Try.prog) w B 34 ty 44 i z 6 64 Try.underlying34 hi hz hs hby hzs (by omega) v xs.length (fl encA xs) h.2 ⟨g, 0, none⟩ 1 1 (encA a) (by rw [lenA])
    (fun j u hj => by rw [Addr.add_lit, Nat.zero_add, hx.cell j, List.getElem?_toArray]; exact hj) (oneA a) (by simp only [maxLen]; omega) (by omega) hB
  refine ⟨v', w', hr, ⟨by rw [List.length_append]; simp; omega, ?_⟩, below_grown hg hB (fun k hk => (h.2.lt k hk).1), ⟨hg.os, hg.tape, hg.output, hg.size, fun j hj hn => hg.block j hj (fun e => hn e.symm)⟩⟩
  rw [List.length_append, fl_append, fl_one]
  exact ho
theorem bs_of_one {w : World} {g : Nat} {x : Int} (h : Bk w g 5 #[Value.int IntKind.u8 x]) (hx : 0 ≤ x ∧ x ≤ 255) : Bs (fun _ => True) w (.slice (some ⟨g, 0, none⟩) 1 1) [x] := by
  refine ⟨fun y hy => by obtain rfl := List.mem_singleton.1 hy; exact hx, by simp, Or.inr ⟨g, 0, 1, rfl, by simp, trivial, h.lt, fun i hi => ?_⟩⟩
  obtain rfl : i = 0 := by simpa using hi
  rw [h.cell]
  rfl
theorem atN_name (k : Nat) (hk : k < 8) : (⟨#[97, 116, 116, 114, 105, 98, 117, 116, 101, 45, 110, 117, 109, 98, 101, 114, 45]⟩ : ByteArray) ++ strOfNums [97 + (k : Int)] = (atN k).1 := by
  match k, hk with
  | 0, _ => decide +kernel
  | 1, _ => decide +kernel
  | 2, _ => decide +kernel
  | 3, _ => decide +kernel
  | 4, _ => decide +kernel
  | 5, _ => decide +kernel
  | 6, _ => decide +kernel
  | 7, _ => decide +kernel
  | _ + 8, h => exact absurd h (by omega)
theorem fuS_wf : WfS fuS := by
  intro a ha
  unfold fuS at ha
  obtain ⟨k, _, rfl⟩ := List.mem_map.1 ha
  unfold atN
  exact ⟨by show (0 : Int) ≤ 0; decide, by show (0 : Int) ≤ 4294967295; decide⟩
theorem OwA.kp' {B rb : Nat} {w w' : World} {v : Value} {xs : List AttrD} (h : OwA B w v xs) (k : Kp (fun b => b = rb) w w') (hb : rb < B) : OwA B w' v xs := h.kp k hb

/-- The span of zeros. -/
def zS : SpanD := ⟨0, 0, 0, 0, 0, ⟨#[]⟩, ⟨#[]⟩, ⟨#[]⟩, []⟩
theorem infoZ : ∃ i z, Try.prog.info? 36 = some i ∧ i.zero = some z ∧ z.cells = (encS (zS, .slice none 0 0)).toArray ∧ i.size = 9 ∧ i.bytes = 112 :=
  ⟨(Try.prog.info? 36).getD default, ((Try.prog.info? 36).getD default).zero.getD undef, by kernel_rfl, by kernel_rfl, by kernel_rfl, by kernel_rfl, by kernel_rfl⟩
theorem zc16 : Builtin.zeroCells (encS (zS, Value.slice none 0 0)).toArray 16 = (fl encS (List.replicate 16 (zS, Value.slice none 0 0))).toArray := by kernel_rfl
/-- append(spans, make([]Span, 16)...). -/
theorem app16 {b : Nat} {w : World} {s : SpanD} (h : ∀ f u, (encS (s, Value.slice none 0 0))[f]? = some u → w.cell? ⟨b, f, none⟩ = some u) (hq : s.ats = []) (ty : TypeId) :
    ∃ c' w', (Builtin.append_ #[22, 3] ty #[.slice (some ⟨b, 0, none⟩) 1 1, .int .i64 16]).run Try.prog w = .ok c' w' ∧ Sps w' c' ((s, Value.slice none 0 0) :: List.replicate 16 (zS, Value.slice none 0 0)) ∧ Below w.heap.size w w' ∧ ∀ rb w2, rb < w.heap.size → Kp (fun b => b = rb) w' w2 → Sps w2 c' ((s, Value.slice none 0 0) :: List.replicate 16 (zS, Value.slice none 0 0)) := by
  obtain ⟨i, z, hi, hz, hzc, hs, hby⟩ := infoZ
  have hold : (Builtin.firstCells i.size 1 (.slice (some ⟨b, 0, none⟩) 1 1)).run Try.prog w.drew = .ok (encS (s, Value.slice none 0 0)).toArray w.drew := by
    rw [hs]
    exact run_loadCells_list (P := Try.prog) w.drew ⟨b, 0, none⟩ (encS (s, Value.slice none 0 0)) (fun j u hj => by
      rw [Addr.add_lit, Nat.zero_add]
      exact h j u hj)
  have hr := Lib.run_append_grow_zeros (P := Try.prog) w 22 3 ty 36 i z .i64 .i64 Try.underlying22 Try.underlying3 hi hz (some ⟨b, 0, none⟩) 1 1 (encS (s, Value.slice none 0 0)) hold 16 (by omega) (by omega) (by omega) (by omega) (by rw [hby]; omega) (by rw [hby]; decide +kernel)
  have hcap : 1 + 16 ≤ grownCap w (1 + 16) 1 36 := grownCap_ge w (1 + 16) 1 36
  have hfl : (encS (s, Value.slice none 0 0)).toArray ++ Builtin.zeroCells z.cells 16 = (fl encS ((s, Value.slice none 0 0) :: List.replicate 16 (zS, Value.slice none 0 0))).toArray := by
    rw [hzc, zc16]
    unfold fl
    rw [List.flatMap_cons]
    simp
  have key : ∀ W : World, Bk W w.heap.size 36 ((encS (s, Value.slice none 0 0)).toArray ++ Builtin.zeroCells z.cells 16 ++ Builtin.zeroCells z.cells (grownCap w (1 + 16) 1 36 - (1 + 16))) → Sps W (.slice (some ⟨w.heap.size, 0, none⟩) (1 + 16) (grownCap w (1 + 16) 1 36)) ((s, Value.slice none 0 0) :: List.replicate 16 (zS, Value.slice none 0 0)) := fun W h2 => by
    refine ⟨Or.inr ⟨w.heap.size, 0, _, rfl, hcap, by simp, h2.lt, fun j hj i u hu => ?_⟩, fun p hp => ?_⟩
    · have h1 := fl_at lenS _ j hj i u hu
      have hl : j * 9 + i < (fl encS ((s, Value.slice none 0 0) :: List.replicate 16 (zS, Value.slice none 0 0))).length := by
        by_cases hh : j * 9 + i < (fl encS ((s, Value.slice none 0 0) :: List.replicate 16 (zS, Value.slice none 0 0))).length
        · exact hh
        · rw [List.getElem?_eq_none (by omega)] at h1
          cases h1
      rw [Nat.zero_add]
      refine (h2.cell (j * 9 + i)).trans ?_
      rw [hfl, Array.getElem?_append_left (by simpa using hl), List.getElem?_toArray]
      exact h1
    · rcases List.mem_cons.1 hp with rfl | hp
      · show El encA 6 W _ s.ats
        rw [hq]
        exact El.nilA _
      · obtain ⟨_, rfl⟩ := List.mem_replicate.1 hp
        exact El.nilA _
  exact ⟨_, _, hr, key _ (Bk.new w.drew 36 _), ((Below.refl _ _).drew).alloc (Nat.le_refl _) _, fun rb w2 hrb hk => key _ (hk.bk (Bk.new w.drew 36 _) (by show w.heap.size ≠ rb; omega))⟩

end Go.Proofs.Yteifaipbckhoiab
