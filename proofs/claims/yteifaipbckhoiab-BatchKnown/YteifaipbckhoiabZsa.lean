/- Spans and attributes that are as long; one cell written in rows of spans, of attributes. -/
import Derived.Test.YteifaipbckhoiabLsb
import Derived.Test.YteifaipbckhoiabShr
namespace Go.Proofs.Yteifaipbckhoiab
open Go.RowKit
set_option linter.unusedVariables false

/-- The same but for the bytes of a text. -/
def Like (a b : AttrD) : Prop := b.1 = a.1 ∧ b.2.1 = a.2.1 ∧ b.2.2.1 = a.2.2.1 ∧ b.2.2.2.1 = a.2.2.2.1 ∧ b.2.2.2.2.1 = a.2.2.2.2.1 ∧ b.2.2.2.2.2.size = a.2.2.2.2.2.size
def LikeL : List AttrD → List AttrD → Prop
  | [], [] => True
  | a :: s, b :: t => Like a b ∧ LikeL s t
  | _, _ => False
theorem LikeL.snoc {a b : AttrD} (h : Like a b) : ∀ {xs ys : List AttrD}, LikeL xs ys → LikeL (xs ++ [a]) (ys ++ [b])
  | [], [], _ => ⟨h, trivial⟩
  | _ :: _, _ :: _, k => ⟨k.1, LikeL.snoc h k.2⟩
  | [], _ :: _, k => k.elim
  | _ :: _, [], k => k.elim
theorem LikeL.len : ∀ {xs ys : List AttrD}, LikeL xs ys → ys.length = xs.length
  | [], [], _ => rfl
  | _ :: _, _ :: _, k => by rw [List.length_cons, List.length_cons, LikeL.len k.2]
  | [], _ :: _, k => k.elim
  | _ :: _, [], k => k.elim
theorem Like.vOk {a b : AttrD} (h : Like a b) : okV b.2.2.2 = okV a.2.2.2 := by
  obtain ⟨_, _, _, h4, h5, h6⟩ := h
  unfold Go.Proofs.Yteifaipbckhoiab.okV
  rw [h4, h5, h6]
theorem Like.aOk {a b : AttrD} (h : Like a b) : okA b = okA a := by
  have h3 := h.vOk
  obtain ⟨h1, h2, _⟩ := h
  unfold Go.Proofs.Yteifaipbckhoiab.okA
  rw [h1, h2, h3]
theorem LikeL.all : ∀ {xs ys : List AttrD}, LikeL xs ys → ys.all okA = xs.all okA
  | [], [], _ => rfl
  | _ :: _, _ :: _, k => by rw [List.all_cons, List.all_cons, k.1.aOk, LikeL.all k.2]
  | [], _ :: _, k => k.elim
  | _ :: _, [], k => k.elim
theorem LikeL.rs : ∀ {xs ys : List AttrD}, LikeL xs ys → rises (α := AttrD) Prod.fst ys = rises (α := AttrD) Prod.fst xs
  | [], [], _ => rfl
  | [_], [_], _ => rfl
  | a :: c :: s, b :: d :: t, k => by
    have ih := LikeL.rs (xs := c :: s) (ys := d :: t) k.2
    show (lts b.1 d.1 && Go.Proofs.Yteifaipbckhoiab.rises (α := AttrD) Prod.fst (d :: t)) = (lts a.1 c.1 && Go.Proofs.Yteifaipbckhoiab.rises (α := AttrD) Prod.fst (c :: s))
    rw [ih, k.1.1, k.2.1.1]
  | [_], _ :: _ :: _, k => k.2.elim
  | _ :: _ :: _, [_], k => k.2.elim
  | [], _ :: _, k => k.elim
  | _ :: _, [], k => k.elim
theorem LikeL.asOk {xs ys : List AttrD} (h : LikeL xs ys) : okAs ys = okAs xs := by
  unfold Go.Proofs.Yteifaipbckhoiab.okAs
  rw [h.len, h.all, h.rs]
theorem Like.wf {a b : AttrD} (h : Like a b) (hw : WfA a) : WfA b := by
  unfold WfA at hw ⊢
  rw [h.2.2.1]
  exact hw
theorem LikeL.wf : ∀ {xs ys : List AttrD}, LikeL xs ys → (∀ a ∈ xs, WfA a) → ∀ b ∈ ys, WfA b
  | [], [], _, _, b, hb => by cases hb
  | a :: s, c :: t, k, hw, b, hb => by
    rcases List.mem_cons.1 hb with rfl | hb
    · exact k.1.wf (hw a (List.mem_cons_self ..))
    · exact LikeL.wf k.2 (fun x hx => hw x (List.mem_cons_of_mem _ hx)) b hb
  | [], _ :: _, k, _, _, _ => k.elim
  | _ :: _, [], k, _, _, _ => k.elim
theorem Like.sz {a b : AttrD} (h : Like a b) (hk : okV a.2.2.2 = true) : (attrB b).length = (attrB a).length := by
  obtain ⟨h1, h2, h3, h4, h5, h6⟩ := h
  rw [attrB_len, attrB_len, h1, h2, h3]
  have e : (valB b.2.2.2).length = (valB a.2.2.2).length := by
    rw [valB_cont, valB_cont, List.length_append, List.length_append, h4]
    unfold contB
    rw [h4, h5, h6]
    split
    · simp only [List.length_append, bytesOf_length, h6]
    · rfl
  omega
theorem LikeL.szs : ∀ {xs ys : List AttrD}, LikeL xs ys → (∀ a ∈ xs, okA a = true) → (asB ys).length = (asB xs).length
  | [], [], _, _ => rfl
  | a :: s, b :: t, k, h => by
    show (attrB b ++ asB t).length = (attrB a ++ asB s).length
    rw [List.length_append, List.length_append, k.1.sz (okA_parts (h a (List.mem_cons_self ..))).2.2, LikeL.szs k.2 (fun x hx => h x (List.mem_cons_of_mem _ hx))]
  | [], _ :: _, k, _ => k.elim
  | _ :: _, [], k, _ => k.elim
theorem LikeL.bLen {xs ys : List AttrD} (h : LikeL xs ys) (ho : Go.Proofs.Yteifaipbckhoiab.okAs xs = true) : (listB ys).length = (listB xs).length := by
  unfold Go.Proofs.Yteifaipbckhoiab.listB
  rw [List.length_append, List.length_append, h.len, h.szs (okAs_all ho).2]

theorem Like.refl (a : AttrD) : Like a a := ⟨rfl, rfl, rfl, rfl, rfl, rfl⟩
theorem LikeL.refl : ∀ xs : List AttrD, LikeL xs xs
  | [] => trivial
  | a :: t => ⟨Like.refl a, LikeL.refl t⟩
theorem LikeL.set : ∀ (xs : List AttrD) (k : Nat) (hk : k < xs.length) (y : AttrD), Like (xs[k]'hk) y → LikeL xs (xs.set k y)
  | a :: t, 0, _, y, h => ⟨h, LikeL.refl t⟩
  | a :: t, k + 1, hk, y, h => ⟨Like.refl a, LikeL.set t k (by simpa using hk) y (by simpa using h)⟩
theorem LikeS.refl (a : SpanD) : LikeS a a := ⟨rfl, rfl, rfl, rfl, rfl, rfl, rfl, rfl, id, id, id, fun _ => rfl⟩
theorem LikeSs.refl : ∀ xs : List SpanD, LikeSs xs xs
  | [] => trivial
  | a :: t => ⟨LikeS.refl a, LikeSs.refl t⟩
theorem LikeSs.at_ : ∀ {xs ys : List SpanD} (h : LikeSs xs ys) (i : Nat) (hx : i < xs.length) (hy : i < ys.length), LikeS (xs[i]'hx) (ys[i]'hy)
  | _ :: _, _ :: _, h, 0, _, _ => h.1
  | _ :: _, _ :: _, h, i + 1, hx, hy => LikeSs.at_ h.2 i (by simpa using hx) (by simpa using hy)
  | [], _ :: _, h, _, _, _ => h.elim
  | _ :: _, [], h, _, _, _ => h.elim
theorem LikeSs.set : ∀ {xs ys : List SpanD} (h : LikeSs xs ys) (i : Nat) (hx : i < xs.length) (y : SpanD), LikeS (xs[i]'hx) y → LikeSs xs (ys.set i y)
  | _ :: _, _ :: _, h, 0, _, y, hy => ⟨hy, h.2⟩
  | _ :: _, _ :: _, h, i + 1, hx, y, hy => ⟨h.1, LikeSs.set h.2 i (by simpa using hx) y (by simpa using hy)⟩
  | [], _ :: _, h, _, _, _, _ => h.elim
  | _ :: _, [], h, _, _, _, _ => h.elim
theorem LikeS.ats {a b : SpanD} (h : LikeS a b) {ys : List AttrD} (k : LikeL b.ats ys) : LikeS a { b with ats := ys } :=
  ⟨h.tr, h.sid, h.pa, h.st, h.ln, h.sv, h.op, h.sb, h.nsv, h.nop, fun e => by show okAs ys = true; rw [k.asOk]; exact h.oats e, fun e => by show (listB ys).length = _; rw [k.bLen (h.oats e)]; exact h.lats e⟩

theorem fl_set {α : Type} {enc : α → List Value} {k : Nat} (hk : ∀ x, (enc x).length = k) : ∀ (xs : List α) (i : Nat) (hi : i < xs.length) (f : Nat) (hf : f < k) (y : α) (u : Value), enc y = (enc (xs[i]'hi)).set f u → fl enc (xs.set i y) = (fl enc xs).set (i * k + f) u
  | a :: t, 0, _, f, hf, y, u, h => by
    show fl enc (y :: t) = (fl enc (a :: t)).set (0 * k + f) u
    unfold fl
    rw [List.flatMap_cons, List.flatMap_cons, Nat.zero_mul, Nat.zero_add, List.set_append_left _ _ (by rw [hk]; exact hf)]
    rw [h]
    rfl
  | a :: t, i + 1, hi, f, hf, y, u, h => by
    have ih := fl_set hk t i (by simpa using hi) f hf y u (by simpa using h)
    show fl enc (a :: t.set i y) = (fl enc (a :: t)).set ((i + 1) * k + f) u
    unfold fl at ih ⊢
    rw [List.flatMap_cons, List.flatMap_cons, ih, List.set_append_right _ _ (by rw [hk, Nat.add_mul]; omega), hk]
    congr 2
    rw [Nat.add_mul]
    omega
theorem fl_same {α : Type} {enc : α → List Value} : ∀ (xs : List α) (i : Nat) (hi : i < xs.length) (y : α), enc y = enc (xs[i]'hi) → fl enc (xs.set i y) = fl enc xs
  | a :: t, 0, _, y, h => by
    show fl enc (y :: t) = fl enc (a :: t)
    unfold fl
    rw [List.flatMap_cons, List.flatMap_cons, h]
    rfl
  | a :: t, i + 1, hi, y, h => by
    have ih := fl_same t i (by simpa using hi) y (by simpa using h)
    show fl enc (a :: t.set i y) = fl enc (a :: t)
    unfold fl at ih ⊢
    rw [List.flatMap_cons, List.flatMap_cons, ih]
theorem own_set {α : Type} {enc : α → List Value} {k B g n c : Nat} {e : TypeId} {w : World} (hk : ∀ x, (enc x).length = k) {xs : List α} (h : w.ownsRow B e k (.slice (some ⟨g, 0, none⟩) n c) xs.length (fl enc xs)) {i f : Nat} (hi : i < xs.length) (hf : f < k) {y : α} {u : Value} (he : enc y = (enc (xs[i]'hi)).set f u) :
    (w.setCell ⟨g, i * k + f, none⟩ u).ownsRow B e k (.slice (some ⟨g, 0, none⟩) n c) (xs.set i y).length (fl enc (xs.set i y)) := by
  refine ⟨by rw [fl_len hk], ?_⟩
  rcases h.2 with ⟨h1, _⟩ | ⟨g', cap, cur, hv, hb, hg, hc, hm, hz, ht⟩
  · cases h1
  · injection hv with e1 e2 e3
    injection e1 with e1
    injection e1 with e1
    subst e1 e2 e3
    have hN : i * k + f < xs.length * k := by
      have : (i + 1) * k ≤ xs.length * k := Nat.mul_le_mul_right k hi
      rw [Nat.add_mul] at this
      omega
    refine Or.inr ⟨g, c, cur.setIfInBounds (i * k + f) u, by rw [List.length_set], hb, Bk.set (show Bk w g e cur from hg) (i * k + f) u, by rw [List.length_set]; exact hc, hm, by simpa using hz, ?_⟩
    rw [List.length_set, fl_set hk xs i hi f hf y u he, ← ht, Array.toList_setIfInBounds, List.take_set]
theorem OwT.set {B g m c : Nat} {w : World} {xs : List AttrD} (h : OwT B w (.slice (some ⟨g, 0, none⟩) m c) xs) {i f : Nat} (hi : i < xs.length) (hf : f < 6) {y : AttrD} {u : Value} (he : encA y = (encA (xs[i]'hi)).set f u) : OwT B (w.setCell ⟨g, i * 6 + f, none⟩ u) (.slice (some ⟨g, 0, none⟩) m c) (xs.set i y) :=
  ⟨by rw [List.length_set]; exact h.1, own_set lenA h.2 hi hf he⟩
theorem snd_set {qs : List SpanV} {i : Nat} (hi : i < qs.length) {y : SpanV} (hy : y.2 = (qs[i]'hi).2) (a : Nat) (ha : a < (qs.set i y).length) : ((qs.set i y)[a]'ha).2 = (qs[a]'(by rw [List.length_set] at ha; exact ha)).2 := by
  by_cases e : i = a
  · subst e
    rw [List.getElem_set_self]
    exact hy
  · rw [List.getElem_set_ne e]
theorem mem_set {qs : List SpanV} {i : Nat} {y p : SpanV} (h : p ∈ qs.set i y) : p = y ∨ ∃ (j : Nat) (hj : j < qs.length), j ≠ i ∧ p = qs[j] := by
  obtain ⟨j, hj, rfl⟩ := List.mem_iff_getElem.1 h
  by_cases e : i = j
  · subst e
    rw [List.getElem_set_self]
    exact Or.inl rfl
  · rw [List.getElem_set_ne e]
    exact Or.inr ⟨j, _, fun h => e h.symm, rfl⟩
theorem OwB.sepI {B : Nat} {w : World} {c : Value} {qs : List SpanV} (h : OwB B w c qs) {i : Nat} (hi : i < qs.length) {y : SpanV} (hy : y.2 = (qs[i]'hi).2) : (∀ p ∈ qs.set i y, ∀ g, p.2.ownBlock = some g → c.ownBlock ≠ some g) ∧ (qs.set i y).Pairwise (fun a b => ∀ g, a.2.ownBlock = some g → b.2.ownBlock ≠ some g) := by
  constructor
  · intro p hp
    obtain ⟨j, hj, rfl⟩ := List.mem_iff_getElem.1 hp
    rw [snd_set hi hy j hj]
    exact h.sep _ (List.getElem_mem _)
  · rw [List.pairwise_iff_getElem]
    intro a b ha hb hab
    rw [snd_set hi hy a ha, snd_set hi hy b hb]
    exact List.pairwise_iff_getElem.1 h.pw a b _ _ hab
/-- One cell of a span is written. -/
theorem OwB.setS {B g n c : Nat} {w : World} {qs : List SpanV} (h : OwB B w (.slice (some ⟨g, 0, none⟩) n c) qs) {i f : Nat} (hi : i < qs.length) (hf : f < 9) {s' : SpanD} {u : Value} (he : encS (s', (qs[i]'hi).2) = (encS (qs[i]'hi)).set f u) (ha : s'.ats = (qs[i]'hi).1.ats) :
    OwB B (w.setCell ⟨g, i * 9 + f, none⟩ u) (.slice (some ⟨g, 0, none⟩) n c) (qs.set i (s', (qs[i]'hi).2)) := by
  have hs := h.sepI hi (y := (s', (qs[i]'hi).2)) rfl
  have hk := kp_set1 w g (i * 9 + f) u
  refine ⟨⟨by rw [List.length_set]; exact h.own.1, own_set lenS h.own.2 hi hf he⟩, fun p hp => ?_, hs.1, hs.2⟩
  rcases mem_set hp with rfl | ⟨j, hj, _, rfl⟩
  · show OwT B _ (qs[i]'hi).2 s'.ats
    rw [ha]
    exact (h.ats _ (List.getElem_mem hi)).kp hk (fun gq hgq e => h.sep _ (List.getElem_mem hi) gq hgq (by subst e; rfl))
  · exact (h.ats _ (List.getElem_mem hj)).kp hk (fun gq hgq e => h.sep _ (List.getElem_mem hj) gq hgq (by subst e; rfl))
/-- One cell of an attribute of a span is written. -/
theorem OwB.setA {B : Nat} {w : World} {c : Value} {qs : List SpanV} (h : OwB B w c qs) {i k f g m cp : Nat} (hi : i < qs.length) (hq : (qs[i]'hi).2 = .slice (some ⟨g, 0, none⟩) m cp) (hk : k < (qs[i]'hi).1.ats.length) (hf : f < 6) {a' : AttrD} {u : Value} (he : encA a' = (encA ((qs[i]'hi).1.ats[k]'hk)).set f u) :
    OwB B (w.setCell ⟨g, k * 6 + f, none⟩ u) c (qs.set i ({ (qs[i]'hi).1 with ats := (qs[i]'hi).1.ats.set k a' }, (qs[i]'hi).2)) := by
  have hs := h.sepI hi (y := ({ (qs[i]'hi).1 with ats := (qs[i]'hi).1.ats.set k a' }, (qs[i]'hi).2)) rfl
  have hkp := kp_set1 w g (k * 6 + f) u
  have hcg : ∀ gc, c.ownBlock = some gc → gc ≠ g := fun gc hgc e => h.sep _ (List.getElem_mem hi) g (by rw [hq]; rfl) (by rw [hgc, e])
  refine ⟨⟨by rw [List.length_set]; exact h.own.1, ?_⟩, fun p hp => ?_, hs.1, hs.2⟩
  · rw [List.length_set, fl_same qs i hi _ (by rfl)]
    exact (h.own.grown (row := some g) ⟨hkp.os, hkp.tape, hkp.output, hkp.size, fun j hj hn => hkp.block j hj (fun e => hn (by rw [e]))⟩ (by
      cases hv : c.ownBlock with
      | none => exact Or.inl rfl
      | some gc => exact Or.inr fun e => hcg gc hv (Option.some.inj e))).2
  · rcases mem_set hp with rfl | ⟨j, hj, hne, rfl⟩
    · show OwT B _ (qs[i]'hi).2 ((qs[i]'hi).1.ats.set k a')
      have h1 := h.ats _ (List.getElem_mem hi)
      rw [hq] at h1 ⊢
      exact h1.set hk hf he
    · refine (h.ats _ (List.getElem_mem hj)).kp hkp (fun gq hgq e => ?_)
      subst e
      have hp := List.pairwise_iff_getElem.1 h.pw
      rcases Nat.lt_or_gt_of_ne hne with hl | hl
      · exact hp j i hj hi hl gq hgq (by rw [hq]; rfl)
      · exact hp i j hi hj hl gq (by rw [hq]; rfl) hgq
/-- The cells of a span in a row of its own. -/
theorem OwB.cell {B g n c : Nat} {w : World} {qs : List SpanV} (h : OwB B w (.slice (some ⟨g, 0, none⟩) n c) qs) {i : Nat} (hi : i < qs.length) (f : Nat) {u : Value} (he : (encS (qs[i]'hi))[f]? = some u) : w.cell? ⟨g, i * 9 + f, none⟩ = some u := by
  have h1 := h.own.2.cells (g := g) rfl (i * 9 + f) u (fl_at lenS qs i hi f u he)
  rw [Addr.add_lit, Nat.zero_add] at h1
  exact h1
theorem own_fz {B g n c k m : Nat} {e : TypeId} {w : World} {xs : List Value} (h : w.ownsRow B e k (.slice (some ⟨g, 0, none⟩) n c) m xs) (o : Nat) : w.frozen? ⟨g, o, none⟩ = false := by
  rcases h.2 with ⟨h1, _⟩ | ⟨g', cap, cur, hv, _, hg, _⟩
  · cases h1
  · injection hv with e1
    injection e1 with e1
    injection e1 with e1
    subst e1
    exact frozen_of_row w g o _ e hg
theorem OwT.cell {B g m c : Nat} {w : World} {xs : List AttrD} (h : OwT B w (.slice (some ⟨g, 0, none⟩) m c) xs) {i : Nat} (hi : i < xs.length) (f : Nat) {u : Value} (he : (encA (xs[i]'hi))[f]? = some u) : w.cell? ⟨g, i * 6 + f, none⟩ = some u := by
  have h1 := h.2.cells (g := g) rfl (i * 6 + f) u (fl_at lenA xs i hi f u he)
  rw [Addr.add_lit, Nat.zero_add] at h1
  exact h1
/-- A text of so many of one byte. -/
theorem repeat_one (x : UInt8) (n : Nat) (w : World) (hn : n ≤ 140737488355328) : Calls Try.prog 10 #[.string ⟨#[x]⟩, .int .i64 (n : Int)] w fun e w' => e = .returned (.string ⟨Array.replicate n x⟩) ∧ Below w.heap.size w w' := by
  refine (Any.strings_Repeat repeatL repeatX ⟨#[x]⟩ n w (by omega) (by show 1 * n ≤ _; omega)).mono ?_
  rintro e w' ⟨rfl, hb⟩
  refine ⟨?_, hb⟩
  have e1 : Lib.repeatL [x] n = List.replicate n x := by
    have h := Lib.repeatL_replicate x 1 n
    rw [Nat.mul_one] at h
    exact h
  show Ending.returned (.string ⟨(Lib.repeatL [x] n).toArray⟩) = _
  rw [e1]
  simp

end Go.Proofs.Yteifaipbckhoiab
