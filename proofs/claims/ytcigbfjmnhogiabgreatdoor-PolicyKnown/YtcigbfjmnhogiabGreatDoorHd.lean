/- A line, put into a policy: the model and heed. -/
import Derived.Test.YtcigbfjmnhogiabGreatDoorRq
import Derived.Test.YtcigbfjmnhogiabGreatDoorSpl
import Derived.Test.YtcigbfjmnhogiabGreatDoorPlc
import Derived.Test.YtcigbfjmnhogiabGreatDoorIns
import Derived.Deep.RegionHeld3
namespace Go.Proofs.YtcigbfjmnhogiabGreatDoor
open Go.RowKit
set_option linter.unusedVariables false


/-- The number that a word tells, or none. -/
def numP (s : ByteArray) : Option Int :=
  match Lib.atoiAll s.data.toList with
  | .ok v => if Lib.itoa v = s.data.toList then some v else none
  | _ => none
theorem numP_of {s : ByteArray} {v : Int} {ok : Bool} (h : NumOK s.data.toList v ok) : numP s = if ok then some v else none := by
  unfold numP
  rcases h with ⟨rfl, h1, h2⟩ | ⟨rfl, h1⟩
  · rw [h1]
    simp only [h2, if_true]
  · split
    · rename_i x hx
      rw [if_neg (h1 x hx)]
      rfl
    · rfl

/-- The reader that words tell. -/
def rdrP (ps : List ByteArray) : Option ReaderD :=
  match rdL (hdW ps.tail), numP (hdW ps.tail.tail), numP (hdW ps.tail.tail.tail) with
  | some (x, p), some k, some b => if okReader (hdW ps, (x : Int), (p : Int), k, b) then some (hdW ps, (x : Int), (p : Int), k, b) else none
  | _, _, _ => none
theorem reader_ok {w : World} {wb G : Nat} {ps : List ByteArray} (h : Ws w wb G ps) (h8 : 6 ≤ wb) (hg : Glob w) :
    Calls Tryz.prog 43 #[.pointer (some ⟨wb, 0, none⟩)] w fun e w' => ∃ (x p k b : Int) (ok : Bool), e = .returned (.tuple #[.agg #[.string (hdW ps), .int .i64 x, .int .u32 p, .int .i64 k, .int .i64 b], .bool ok]) ∧
      rdrP ps = (if ok then some (hdW ps, x, p, k, b) else none) ∧ Ws w' wb G ps.tail.tail.tail.tail ∧ Kp (fun k => k = wb) w w' := by
  have hc := fun w (h : Ws w wb G ps.tail) => label_ok h
  cases hr : rdL (hdW ps.tail) with
  | none =>
    rw [hr] at hc
    refine (reader_core h 0 0 false h8 hg hc).mono ?_
    rintro e w' ⟨v1, v2, ok1, ok2, rfl, hn1, hn2, hw, hk⟩
    exact ⟨0, 0, v1, v2, false, rfl, by unfold rdrP; rw [hr]; rfl, hw, hk⟩
  | some q =>
    obtain ⟨x, p⟩ := q
    rw [hr] at hc
    refine (reader_core h x p true h8 hg hc).mono ?_
    rintro e w' ⟨v1, v2, ok1, ok2, rfl, hn1, hn2, hw, hk⟩
    refine ⟨x, p, v1, v2, _, rfl, ?_, hw, hk⟩
    unfold rdrP
    rw [hr, numP_of hn1, numP_of hn2]
    cases ok1 <;> cases ok2 <;> simp

/-- What the words of a line say. -/
def lineP (ps : List ByteArray) : Option (RuleD ⊕ ReaderD) :=
  if (hdW ps).data.toList == [114, 117, 108, 101] then
    (if (ruleP ps.tail).2 && ps.tail.tail.tail.isEmpty then some (.inl (ruleP ps.tail).1) else none)
  else if (hdW ps).data.toList == [114, 101, 97, 100, 101, 114] then
    match rdrP ps.tail with
    | some q => if ps.tail.tail.tail.tail.tail.isEmpty then some (.inr q) else none
    | none => none
  else none

/-- The rules and the readers. -/
abbrev PolD := List RuleD × List ReaderD
/-- A line, into a policy. -/
def heedM (st : PolD) (line : ByteArray) : Option PolD :=
  if line.size == 0 || isRem line then some st else
  match lineP (splW 5 line) with
  | some (.inl r) => if !has (α := RuleD) Prod.fst r.1 st.1 && decide (st.1.length < 64) then some (ins (α := RuleD) Prod.fst r st.1, st.2) else none
  | some (.inr r) => if !has (α := ReaderD) Prod.fst r.1 st.2 && decide (st.2.length < 16) then some (st.1, ins (α := ReaderD) Prod.fst r st.2) else none
  | none => none

/-- Block pb holds a policy whose rows are its own. -/
def PolB (B pb : Nat) (w : World) (st : PolD) : Prop :=
  B ≤ pb ∧ Srt (α := RuleD) Prod.fst st.1 ∧ Srt (α := ReaderD) Prod.fst st.2 ∧ st.1.length ≤ 64 ∧ st.2.length ≤ 16 ∧ ∃ vr vq, Bk w pb 28 #[vr, vq] ∧ OwR B w vr st.1 ∧ OwQ B w vq st.2
def HdM (B pb : Nat) (w' : World) (ok : Bool) : Option PolD → Prop
  | some st' => ok = true ∧ PolB B pb w' st'
  | none => ok = false
/-- How heed ends. -/
def HdEnd (w : World) (B pb : Nat) (st : PolD) (line : ByteArray) (e : Ending) (w' : World) : Prop :=
  ∃ ok, e = .returned (.bool ok) ∧ Below B w w' ∧ (∃ vr vq, Bk w' pb 28 #[vr, vq]) ∧ HdM B pb w' ok (heedM st line)

theorem own_ne {B : Nat} {e t : TypeId} {k n : Nat} {w : World} {v : Value} {xs : List Value} {b : Nat} {cs : Array Value} (h : w.ownsRow B e k v n xs) (hb : Bk w b t cs) (hne : t ≠ e) : v.ownBlock ≠ some b := by
  rcases h.2 with ⟨rfl, _⟩ | ⟨g, cap, cur, rfl, _, hg, _⟩
  · simp [Value.ownBlock]
  · intro hh
    have : g = b := by simpa [Value.ownBlock] using hh
    subst this
    unfold Bk at hb
    rw [hg] at hb
    simp at hb
    exact hne hb.2.symm
theorem own_ne2 {B : Nat} {e t : TypeId} {k n k2 n2 : Nat} {w : World} {v v2 : Value} {xs ys : List Value} (h : w.ownsRow B e k v n xs) (h2 : w.ownsRow B t k2 v2 n2 ys) (hne : t ≠ e) : v.ownBlock = none ∨ v.ownBlock ≠ v2.ownBlock := by
  rcases h2.2 with ⟨rfl, _⟩ | ⟨g, cap, cur, rfl, _, hg, _⟩
  · by_cases hv : v.ownBlock = none
    · exact Or.inl hv
    · exact Or.inr hv
  · exact Or.inr (own_ne h (b := g) (cs := cur) hg hne)
theorem grown_set (w : World) (b i : Nat) (v : Value) : w.grownBy (w.setCell ⟨b, i, none⟩ v) (some b) :=
  ⟨rfl, rfl, rfl, by simp, fun k _ hne => Below.heap_setCell w ⟨b, i, none⟩ v k (fun e => hne (by simp [e]))⟩
theorem own_set {B : Nat} {e t : TypeId} {k n : Nat} {w : World} {v : Value} {xs : List Value} {b : Nat} {cs : Array Value} (h : w.ownsRow B e k v n xs) (hb : Bk w b t cs) (hne : t ≠ e) (i : Nat) (u : Value) : (w.setCell ⟨b, i, none⟩ u).ownsRow B e k v n xs :=
  h.kept (grown_set w b i u) (Or.inr (own_ne h hb hne))
/-- A row of its own, by steps that spare it. -/
theorem own_kp {B : Nat} {e t : TypeId} {k n : Nat} {w w' : World} {v : Value} {xs : List Value} {b : Nat} {cs : Array Value} (h : w.ownsRow B e k v n xs) (hb : Bk w b t cs) (hne : t ≠ e) (kp : Kp (fun i => i = b) w w') : w'.ownsRow B e k v n xs :=
  h.kept (row := some b) ⟨kp.os, kp.tape, kp.output, kp.size, fun i hi hn => kp.block i hi (fun e => hn (by simp [e]))⟩ (Or.inr (own_ne h hb hne))
theorem Bk.grown {w w' : World} {b : Nat} {t : TypeId} {cs : Array Value} {row : Option Nat} (h : Bk w b t cs) (k : w.grownBy w' row) (hn : row ≠ some b) : Bk w' b t cs := (k.block b h.lt (fun e => hn e.symm)).trans h


theorem own_lt {B : Nat} {e : TypeId} {k n : Nat} {w : World} {v : Value} {xs : List Value} (h : w.ownsRow B e k v n xs) : ∀ g, v.ownBlock = some g → B ≤ g ∧ g < w.heap.size := fun b hh => by
  rcases h.2 with ⟨rfl, _⟩ | ⟨g, cap, cur, rfl, hB, hg, _⟩
  · simp [Value.ownBlock] at hh
  · have : g = b := by simpa [Value.ownBlock] using hh
    subst this
    exact ⟨hB, (Array.getElem?_eq_some_iff.1 hg).1⟩
theorem own_form {B : Nat} {e : TypeId} {k n : Nat} {w : World} {v : Value} {xs : List Value} (h : w.ownsRow B e k v n xs) : ∃ x m cap, v = .slice x m cap := by
  rcases h.2 with ⟨rfl, _⟩ | ⟨g, cap, cur, rfl, _⟩
  · exact ⟨none, 0, 0, rfl⟩
  · exact ⟨_, _, cap, rfl⟩
theorem Ss.form {w : World} {wb G : Nat} {v : Value} {ps : List ByteArray} (h : Ss w wb G v ps) : ∃ x cap, v = .slice x ps.length cap := by
  rcases h.2 with ⟨rfl, x, cap, rfl⟩ | ⟨g, off, cap, rfl, _⟩
  · exact ⟨x, cap, rfl⟩
  · exact ⟨_, cap, rfl⟩
theorem below_grown {B : Nat} {w w' : World} {row : Option Nat} (h : w.grownBy w' row) (hB : B ≤ w.heap.size) (hr : ∀ g, row = some g → B ≤ g) : Below B w w' :=
  ⟨h.os, h.tape, h.output, h.size, fun k hk => h.block k (by omega) (fun e => by have := hr k e.symm; omega)⟩


theorem heed_rule_end {w w8 : World} {B pb : Nat} {xr : List RuleD} {xq : List ReaderD} {line : ByteArray} {m : Option PolD} {ps : List ByteArray} {r : RuleD} {rt okc z : Bool} {L : Nat} {v' vq : Value}
    (HE : m = heedM (xr, xq) line)
    (hM : (match lineP ps with
      | some (.inl r) => if !has (α := RuleD) Prod.fst r.1 xr && decide (xr.length < 64) then some (ins (α := RuleD) Prod.fst r xr, xq) else none
      | some (.inr r) => if !has (α := ReaderD) Prod.fst r.1 xq && decide (xq.length < 16) then some (xr, ins (α := ReaderD) Prod.fst r xq) else none
      | none => none) = m)
    (hq : ((hdW ps).toList == [114, 117, 108, 101]) = true) (hpq : ruleP ps.tail = (r, rt)) (hL : ps.tail.tail.tail.length = L)
    (hok : (!has (α := RuleD) Prod.fst r.1 xr && decide (xr.length < 64)) = okc) (hS1 : Srt (α := RuleD) Prod.fst xr) (hS2 : Srt (α := ReaderD) Prod.fst xq) (hL2 : xq.length ≤ 16) (hBp : B ≤ pb)
    (hbel : Below B w w8) (hb : Bk w8 pb 28 #[v', vq]) (ho : OwR B w8 v' (if okc then ins (α := RuleD) Prod.fst r xr else [])) (ho2 : OwQ B w8 vq xq) (hz : z = (rt && okc && decide (L = 0))) :
    HdEnd w B pb (xr, xq) line (.returned (.bool z)) w8 := by
  refine ⟨z, rfl, hbel, ⟨_, _, hb⟩, ?_⟩
  rw [← HE]
  rw [ByteArray.toList_eq] at hq
  have hl : lineP ps = if rt && decide (L = 0) then some (.inl r) else none := by
    unfold lineP
    rw [hq, hpq]
    have : ps.tail.tail.tail.isEmpty = decide (L = 0) := by
      rw [← hL]
      cases ps.tail.tail.tail <;> simp
    simp only [if_true, this]
  have hm : m = if rt && okc && decide (L = 0) then some (ins (α := RuleD) Prod.fst r xr, xq) else none := by
    rw [← hM, hl]
    cases rt
    · rfl
    · cases decide (L = 0)
      · simp
      · simp only [Bool.and_self, if_true, hok]
        cases okc <;> rfl
  rw [hm, ← hz]
  cases hzz : z
  · exact rfl
  · rw [hzz] at hz
    have hk : okc = true := by
      cases okc
      · simp at hz
      · rfl
    subst hk
    have h1 : has (α := RuleD) Prod.fst r.1 xr = false := by
      cases hh : has (α := RuleD) Prod.fst r.1 xr
      · rfl
      · rw [hh] at hok; simp at hok
    have h2 : xr.length < 64 := by
      rw [h1] at hok
      simpa using hok
    exact ⟨rfl, hBp, Srt.ins hS1 h1, hS2, by show (ins _ r xr).length ≤ 64; rw [ins_length]; omega, hL2, v', vq, hb, ho, ho2⟩


theorem heed_reader_end {w w8 : World} {B pb : Nat} {xr : List RuleD} {xq : List ReaderD} {line : ByteArray} {m : Option PolD} {ps : List ByteArray} {r : ReaderD} {rt okc z : Bool} {L : Nat} {v' vq : Value}
    (HE : m = heedM (xr, xq) line)
    (hM : (match lineP ps with
      | some (.inl r) => if !has (α := RuleD) Prod.fst r.1 xr && decide (xr.length < 64) then some (ins (α := RuleD) Prod.fst r xr, xq) else none
      | some (.inr r) => if !has (α := ReaderD) Prod.fst r.1 xq && decide (xq.length < 16) then some (xr, ins (α := ReaderD) Prod.fst r xq) else none
      | none => none) = m)
    (hq : ((hdW ps).toList == [114, 117, 108, 101]) = false) (hq2 : ((hdW ps).toList == [114, 101, 97, 100, 101, 114]) = true) (hpq : rdrP ps.tail = if rt then some r else none) (hL : ps.tail.tail.tail.tail.tail.length = L)
    (hok : (!has (α := ReaderD) Prod.fst r.1 xq && decide (xq.length < 16)) = okc) (hS1 : Srt (α := RuleD) Prod.fst xr) (hS2 : Srt (α := ReaderD) Prod.fst xq) (hL1 : xr.length ≤ 64) (hBp : B ≤ pb)
    (hbel : Below B w w8) (hb : Bk w8 pb 28 #[vq, v']) (ho : OwQ B w8 v' (if okc then ins (α := ReaderD) Prod.fst r xq else [])) (ho2 : OwR B w8 vq xr) (hz : z = (rt && okc && decide (L = 0))) :
    HdEnd w B pb (xr, xq) line (.returned (.bool z)) w8 := by
  refine ⟨z, rfl, hbel, ⟨_, _, hb⟩, ?_⟩
  rw [← HE]
  rw [ByteArray.toList_eq] at hq hq2
  have hl : lineP ps = if rt && decide (L = 0) then some (.inr r) else none := by
    unfold lineP
    rw [hq, hq2, hpq]
    have : ps.tail.tail.tail.tail.tail.isEmpty = decide (L = 0) := by
      rw [← hL]
      cases ps.tail.tail.tail.tail.tail <;> simp
    simp only [if_true, this, Bool.false_eq_true, if_false]
    cases rt
    · rfl
    · simp
  have hm : m = if rt && okc && decide (L = 0) then some (xr, ins (α := ReaderD) Prod.fst r xq) else none := by
    rw [← hM, hl]
    cases rt
    · rfl
    · cases decide (L = 0)
      · simp
      · simp only [Bool.and_self, if_true, hok]
        cases okc <;> rfl
  rw [hm, ← hz]
  cases hzz : z
  · exact rfl
  · rw [hzz] at hz
    have hk : okc = true := by
      cases okc
      · simp at hz
      · rfl
    subst hk
    have h1 : has (α := ReaderD) Prod.fst r.1 xq = false := by
      cases hh : has (α := ReaderD) Prod.fst r.1 xq
      · rfl
      · rw [hh] at hok; simp at hok
    have h2 : xq.length < 16 := by
      rw [h1] at hok
      simpa using hok
    exact ⟨rfl, hBp, hS1, Srt.ins hS2 h1, hL1, by show (ins _ r xq).length ≤ 16; rw [ins_length]; omega, vq, v', hb, ho2, ho⟩
theorem heed_other_end {w w8 : World} {B pb : Nat} {xr : List RuleD} {xq : List ReaderD} {line : ByteArray} {m : Option PolD} {ps : List ByteArray} {vr vq : Value}
    (HE : m = heedM (xr, xq) line)
    (hM : (match lineP ps with
      | some (.inl r) => if !has (α := RuleD) Prod.fst r.1 xr && decide (xr.length < 64) then some (ins (α := RuleD) Prod.fst r xr, xq) else none
      | some (.inr r) => if !has (α := ReaderD) Prod.fst r.1 xq && decide (xq.length < 16) then some (xr, ins (α := ReaderD) Prod.fst r xq) else none
      | none => none) = m)
    (hq : ((hdW ps).toList == [114, 117, 108, 101]) = false) (hq2 : ((hdW ps).toList == [114, 101, 97, 100, 101, 114]) = false)
    (hbel : Below B w w8) (hb : Bk w8 pb 28 #[vr, vq]) : HdEnd w B pb (xr, xq) line (.returned (.bool false)) w8 := by
  refine ⟨false, rfl, hbel, ⟨_, _, hb⟩, ?_⟩
  rw [← HE, ← hM]
  rw [ByteArray.toList_eq] at hq hq2
  have hl : lineP ps = none := by
    unfold lineP
    rw [hq, hq2]
    rfl
  rw [hl]
  exact rfl

set_option maxRecDepth 100000 in
set_option maxHeartbeats 8000000 in
theorem heed_ok {w : World} {B pb : Nat} {st : PolD} (line : ByteArray) (h : PolB B pb w st) (hs : line.size ≤ 140737488355328) (h8 : 6 ≤ B) (hg : Glob w) :
    Calls Tryz.prog 19 #[.pointer (some ⟨pb, 0, none⟩), .string line] w fun e w' => HdEnd w B pb st line e w' := by
  obtain ⟨xr, xq⟩ := st
  obtain ⟨hBp, hS1, hS2, hL1, hL2, vr, vq, hb, ho1, ho2⟩ := h
  have hlt := hb.lt
  obtain ⟨m, hm⟩ : ∃ m, heedM (xr, xq) line = m := ⟨_, rfl⟩
  by_cases h0 : line.size = 0
  · have he : line = ⟨#[]⟩ := by
      obtain ⟨⟨l⟩⟩ := line
      have : l.length = 0 := h0
      rw [List.eq_nil_of_length_eq_zero this]
    subst he
    have HP : Hid (HdEnd w B pb (xr, xq) ⟨#[]⟩ (.returned (.bool true)) w) := hd ⟨true, rfl, Below.refl _ _, ⟨vr, vq, hb⟩, by
      have e : heedM (xr, xq) ⟨#[]⟩ = some (xr, xq) := rfl
      rw [e]
      exact ⟨rfl, hBp, hS1, hS2, hL1, hL2, vr, vq, hb, ho1, ho2⟩⟩
    clear hm hb ho1 ho2 hS1 hS2 hlt
    go_enter Tryz.func19, Tryz.ntmps19
    go_wp2_with fail
    go_ret
    exact HP.out
  have hse := str_some' (s := line) (by omega)
  cases hr : isRem line
  case true =>
    have HP : Hid (HdEnd w B pb (xr, xq) line (.returned (.bool true)) w) := hd ⟨true, rfl, Below.refl _ _, ⟨vr, vq, hb⟩, by
      have e : heedM (xr, xq) line = some (xr, xq) := by unfold heedM; rw [hr, Bool.or_true]; rfl
      rw [e]
      exact ⟨rfl, hBp, hS1, hS2, hL1, hL2, vr, vq, hb, ho1, ho2⟩⟩
    have HR := hd hr
    clear hm hb ho1 ho2 hS1 hS2 hlt hr
    go_enter Tryz.func19, Tryz.ntmps19
    go_wp2_with (go_at_call 12; refine (hasp75 line _).mono ?_; rintro e w' ⟨rfl, rfl⟩; simp only [HR.out])
    go_ret
    exact HP.out
  case false =>
    have HR := hd hr
    have HM : Hid ((match lineP (splW 5 line) with
      | some (.inl r) => if !has (α := RuleD) Prod.fst r.1 xr && decide (xr.length < 64) then some (ins (α := RuleD) Prod.fst r xr, xq) else none
      | some (.inr r) => if !has (α := ReaderD) Prod.fst r.1 xq && decide (xq.length < 16) then some (xr, ins (α := ReaderD) Prod.fst r xq) else none
      | none => none) = m) := hd (by
        rw [← hm]
        unfold heedM
        rw [hr, Bool.or_false, beq_eq_false_iff_ne.2 h0]
        rfl)
    have HSPL := hd fun w => splitN_ok line w hs
    have HSZ := hd (splW_size 5 line)
    have HLN := hd (splW_len 5 line)
    have HE : Hid (m = heedM (xr, xq) line) := hd hm.symm
    generalize splW 5 line = ps at *
    have HS := hd hs
    have HB := hd hb
    have HO1 := hd ho1
    have HO2 := hd ho2
    have HT := hd hS1
    have HT2 := hd hS2
    have HG := hd hg
    have HLT := hd hlt
    clear hm hr hs hb ho1 ho2 hS1 hS2 hg hlt h0
    go_enter Tryz.func19, Tryz.ntmps19
    go_wp2_with (first | (go_at_call 12; refine (hasp75 line _).mono ?_; rintro e w ⟨rfl, rfl⟩; simp only [HR.out]) | (go_at_call 39; refine (HSPL.out _).mono ?_; rintro e w1 ⟨b, cap, rfl, HSP⟩; have HSP := hd HSP) | fail)
    obtain ⟨hsp1, hsp2, hsp3, hsp4, hsp5, hsp6⟩ := HSP.out
    have A2 := Bk.new w1 82 #[Value.slice (some ⟨b, 0, none⟩) ps.length cap]
    have B2 := below_below hsp6 (below1 w1 (Obj.cells #[Value.slice (some ⟨b, 0, none⟩) ps.length cap] 82))
    have HW : Hid (Ws (w1.alloc (Obj.cells #[Value.slice (some ⟨b, 0, none⟩) ps.length cap] 82)) w1.heap.size (w1.heap.size + 1) ps) := hd
      ⟨Nat.lt_succ_self _, by rw [World.size_alloc]; exact Nat.le_refl _, _, A2, fun p hp => Nat.le_trans (HSZ.out p hp) HS.out, Or.inr ⟨b, 0, cap, rfl, hsp1, hsp2, by omega, by omega, fun j hj => by
        rw [Nat.zero_add]
        exact (below_cell (below1 w1 _) (p := ⟨b, j, none⟩) hsp4).trans (hsp5 j hj)⟩⟩
    have HWB : Hid (w.heap.size ≤ w1.heap.size) := hd hsp6.size
    generalize w1.alloc (Obj.cells #[Value.slice (some ⟨b, 0, none⟩) ps.length cap] 82) = w2 at *
    generalize w1.heap.size = wb at *
    clear hsp1 hsp2 hsp3 hsp4 hsp5 hsp6 HSP A2 HSPL
    have HB2 := hd B2
    clear B2
    refine (next_ok HW.out).mono ?_
    rintro e w3 ⟨rfl, h3, k3⟩
    have HB3 := hd (HB2.out.trans (k3.belowB HB2.out.size (fun k hk => by have := HWB.out; omega)))
    have H3 := hd h3
    have HW2 := hd HW.out.bd
    clear h3 k3 HB2 HW
    obtain ⟨hw, hhw⟩ : ∃ hw, hdW ps = hw := ⟨_, rfl⟩
    rw [hhw]
    have HHW := hd hhw
    clear hhw
    cases hq : (hw.toList == [114, 117, 108, 101])
    rotate_left
    · have HQ := hd hq
      obtain ⟨pq, hpq⟩ : ∃ pq, ruleP ps.tail = pq := ⟨_, rfl⟩
      have HRU : Hid (∀ w, Ws w wb (wb + 1) ps.tail → Calls Tryz.prog 41 #[.pointer (some ⟨wb, 0, none⟩)] w fun e w' => WdEnd w wb (wb + 1) ps.tail.tail.tail (.tuple #[rV pq.1, .bool pq.2]) e w') := hd fun w h => by
        rw [← hpq]
        exact rule_ok h
      have HPQ := hd hpq
      clear hpq
      obtain ⟨⟨nm, X, P⟩, rt⟩ := pq
      have HRU' : Hid (∀ w, Ws w wb (wb + 1) ps.tail → Calls Tryz.prog 41 #[.pointer (some ⟨wb, 0, none⟩)] w fun e w' => WdEnd w wb (wb + 1) ps.tail.tail.tail (.tuple #[.agg #[.string nm, .int .i64 X, .int .u32 P], .bool rt]) e w') := HRU
      clear HRU
      go_wp2_with fail
      have B4 := hd (below1 w3 (Obj.cells #[Value.string ⟨#[]⟩, Value.int IntKind.i64 0, Value.int IntKind.u32 0] 37))
      have A4 := hd (Bk.new w3 37 #[Value.string ⟨#[]⟩, Value.int IntKind.i64 0, Value.int IntKind.u32 0])
      generalize w3.alloc (Obj.cells #[Value.string ⟨#[]⟩, Value.int IntKind.i64 0, Value.int IntKind.u32 0] 37) = w4 at *
      have HW3 : Hid (wb < w3.heap.size) := hd H3.out.lt
      obtain ⟨rb, hrb⟩ : ∃ rb, w3.heap.size = rb := ⟨_, rfl⟩
      have HRB := hd hrb
      rw [hrb] at A4 HW3 ⊢
      clear hrb
      have HNE : Hid (rb ≠ wb) := hd (by have := HW3.out; omega)
      have H4 := hd (H3.out.below B4.out)
      have HB4 := hd (below_below HB3.out B4.out)
      refine (HRU'.out w4 H4.out).mono ?_
      rintro e w5 ⟨rfl, h5, k5⟩
      have H5 := hd h5
      have A5 := hd (A4.out.kp k5 HNE.out)
      have HB5 := hd (HB4.out.trans (k5.belowB HB4.out.size (fun k hk => by have := HWB.out; omega)))
      clear h5 k5 HB4 H4 HB3 B4 A4 HRU' H3
      have f0 := A5.out.fz 0
      have f1 := A5.out.fz 1
      have f2 := A5.out.fz 2
      have c0 := A5.out.cell 0
      have c1 := A5.out.cell 1
      have c2 := A5.out.cell 2
      simp at c0 c1 c2
      go_wp2_with fail
      have hrw : w.heap.size ≤ rb := by have := HWB.out; have := HW3.out; omega
      have A6 := ((A5.out.set 0 (.string nm)).set 1 (.int .i64 X)).set 2 (.int .u32 P)
      have B6 := below_setCell (below_setCell (below_setCell HB5.out ⟨rb, 0, none⟩ (.string nm) hrw) ⟨rb, 1, none⟩ (.int .i64 X) hrw) ⟨rb, 2, none⟩ (.int .u32 P) hrw
      have hwr : wb < rb := HW3.out
      have H6 := H5.out.belowG (below_setCell (below_setCell (below_setCell (Below.refl (wb + 1) w5) ⟨rb, 0, none⟩ (.string nm) hwr) ⟨rb, 1, none⟩ (.int .i64 X) hwr) ⟨rb, 2, none⟩ (.int .u32 P) hwr)
      generalize ((w5.setCell ⟨rb, 0, none⟩ (.string nm)).setCell ⟨rb, 1, none⟩ (.int .i64 X)).setCell ⟨rb, 2, none⟩ (.int .u32 P) = W at *
      clear f0 f1 f2 c0 c1 c2 A5 H5 HB5 hwr
      have HA6 : Hid (Bk W rb 37 #[.string nm, .int .i64 X, .int .u32 P]) := hd A6
      have HB6 := hd B6
      obtain ⟨h61, h62, v6, h63, h64⟩ := H6
      obtain ⟨x6, cap6, rfl⟩ := h64.form
      have HW6 := hd h63
      obtain ⟨L, hL⟩ : ∃ L, ps.tail.tail.tail.length = L := ⟨_, rfl⟩
      rw [hL] at HW6
      have HL6 := hd hL
      clear A6 B6 h61 h62 h63 h64 hL
      have HP6 := hd (HB.out.keep HB6.out)
      have hpr : pb ≠ rb := by have := HLT.out; omega
      have hpr2 : rb ≠ pb := fun e => hpr e.symm
      have hpw : pb ≠ wb := by have := HLT.out; have := HWB.out; omega
      have hpw2 : wb ≠ pb := fun e => hpw e.symm
      have HRW := hd hrw
      clear hrw
      obtain ⟨okc, hokc⟩ : ∃ okc, (!has (α := RuleD) Prod.fst nm xr && decide (xr.length < 64)) = okc := ⟨_, rfl⟩
      have HPL : Hid (Calls Tryz.prog 42 #[vr, (.agg #[.string nm, .int .i64 X, .int .u32 P]), .int .i64 64, .func (.func 24) #[] #[]] W.drew fun e w' => ∃ x' n' cap', e = .returned (.tuple #[.slice x' n' cap', .bool okc]) ∧ OwR B w' (.slice x' n' cap') (if okc then ins (α := RuleD) Prod.fst (nm, X, P) xr else []) ∧ W.drew.grownBy w' vr.ownBlock) := hd (by
        refine (placedR (x := X) (p := P) (s := nm) (own_below HO1.out HB6.out.drew) HT.out hL1 (Nat.le_trans hBp (Nat.le_of_lt (Nat.lt_of_lt_of_le HLT.out HB6.out.size)))).mono ?_
        rintro e w' ⟨v', ok, rfl, h1, h2, h3⟩
        obtain rfl : ok = okc := h1.trans hokc
        obtain ⟨x', n', cap', rfl⟩ := own_form h2
        exact ⟨x', n', cap', rfl, h2, h3⟩)
      have HOK := hd hokc
      clear hokc
      have HROW := hd (own_lt HO1.out)
      have HNP := hd (own_ne HO1.out HB.out (by decide))
      have HN2 := hd (own_ne2 HO2.out HO1.out (by decide))
      generalize vr.ownBlock = row at *
      have c0 := HA6.out.cell 0
      have c1 := HA6.out.cell 1
      have c2 := HA6.out.cell 2
      have c3 := HP6.out.cell 0
      simp at c0 c1 c2 c3
      refine wp_region_held_drew (S := (fun W => W.cell? ⟨rb, 0, none⟩ = some (.string nm) ∧ W.cell? ⟨rb, 1, none⟩ = some (.int .i64 X) ∧ W.cell? ⟨rb, 2, none⟩ = some (.int .u32 P))) (by kernel_rfl) ⟨c0, c1, c2⟩ (fun hHeld => ?_)
      refine wpAnyH_take (i := 0) (oi := { dst := some 26, op := Op.move (Operand.tmp 0), type := 64, pos := "text.go:64", after := #[], guard := none }) (v := ?_) rfl (by kernel_rfl) (by kernel_rfl) (by kernel_rfl) (fun _ _ _ h => h) (Or.inl ⟨by rfl, ?_⟩) hHeld ?_
      case refine_2 => intro w hSw; (try dsimp only at hSw); go_simp; try with_reducible rfl
      try simp only [Act.put, List.setIfInBounds_toArray, List.set_cons_zero, List.set_cons_succ]
      refine wpAnyH_take (i := 1) (oi := { dst := some 27, op := Op.move (Operand.tmp 0), type := 64, pos := "text.go:64", after := #[], guard := none }) (v := ?_) rfl (by kernel_rfl) (by kernel_rfl) (by kernel_rfl) (fun _ _ _ h => h) (Or.inl ⟨by rfl, ?_⟩) hHeld ?_
      case refine_2 => intro w hSw; (try dsimp only at hSw); go_simp; try with_reducible rfl
      try simp only [Act.put, List.setIfInBounds_toArray, List.set_cons_zero, List.set_cons_succ]
      refine wpAnyH_take (i := 2) (oi := { dst := some 28, op := Op.nilCheck (Operand.tmp 27), type := 0, pos := "text.go:64", after := #[{ on := 1, ground := Ground.data }], guard := none }) (v := ?_) rfl (by kernel_rfl) (by kernel_rfl) (by kernel_rfl) (fun _ _ _ h => h) (Or.inl ⟨by rfl, ?_⟩) hHeld ?_
      case refine_2 => intro w hSw; (try dsimp only at hSw); go_simp; try with_reducible rfl
      try simp only [Act.put, List.setIfInBounds_toArray, List.set_cons_zero, List.set_cons_succ]
      refine wpAnyH_take (i := 3) (oi := { dst := some 29, op := Op.fieldAddr 28 (Operand.tmp 28) 0, type := 0, pos := "text.go:64", after := #[{ on := 2, ground := Ground.data }], guard := none }) (v := ?_) rfl (by kernel_rfl) (by kernel_rfl) (by kernel_rfl) (fun _ _ _ h => h) (Or.inl ⟨by rfl, ?_⟩) hHeld ?_
      case refine_2 => intro w hSw; (try dsimp only at hSw); go_simp; try with_reducible rfl
      try simp only [Act.put, List.setIfInBounds_toArray, List.set_cons_zero, List.set_cons_succ]
      refine wpAnyH_take (i := 5) (oi := { dst := some 31, op := Op.load 37 (Operand.tmp 8), type := 37, pos := "text.go:64", after := #[], guard := none }) (v := ?_) rfl (by kernel_rfl) (by kernel_rfl) (by kernel_rfl) (fun _ _ _ h => h) (Or.inl ⟨by rfl, ?_⟩) hHeld ?_
      case refine_2 => intro w hSw; (try dsimp only at hSw); go_simp; try with_reducible rfl
      try simp only [Act.put, List.setIfInBounds_toArray, List.set_cons_zero, List.set_cons_succ]
      refine wpAnyH_ready (rs := [4]) (by kernel_rfl) (by simp) ?_
      refine AllReadyH.cons (o := { dst := some 30, op := Op.load 25 (Operand.tmp 29), type := 25, pos := "text.go:64", after := #[{ on := 3, ground := Ground.data }], guard := none }) rfl (fun K hK => ?_) AllReadyH.nil
      go_simp
      refine hK.out _ _ ⟨c0, c1, c2⟩ (fun hHeld => ?_)
      clear hK K
      try simp only [Act.put, List.setIfInBounds_toArray, List.set_cons_zero, List.set_cons_succ]
      refine wpAnyH_ready (rs := [6]) (by kernel_rfl) (by simp) ?_
      refine AllReadyH.cons (o := { dst := some 32, op := Op.call { callee := Callee.value (Operand.func 42), args := #[Operand.tmp 30, Operand.tmp 31, Operand.const (Value.int IntKind.i64 64), Operand.func 24], argTypes := #[25, 37, 3, 68] }, type := 86, pos := "text.go:64", after := #[{ on := 4, ground := Ground.data }, { on := 5, ground := Ground.data }], guard := none }) rfl (fun K hK => ?_) AllReadyH.nil
      go_simp
      refine HPL.out.mono ?_
      rintro e w7 ⟨x', n', cap', rfl, hown, hgr⟩
      have HOW := hd hown
      have HGR := hd hgr
      have A7 := HA6.out.drew.grown hgr (fun e => by have := HROW.out rb e; have := HRW.out; omega)
      have s0 := A7.cell 0
      have s1 := A7.cell 1
      have s2 := A7.cell 2
      have P7 := HP6.out.drew.grown hgr HNP.out
      have s4 := P7.fz 0
      have s3 := P7.cell 0
      have HP7 := hd P7
      have HA7 := hd A7
      simp at s0 s1 s2 s3
      have HW7 := hd (HW6.out.drew.grown hgr (fun e => by have := HROW.out wb e; have := HWB.out; omega))
      clear A7 P7 hown hgr
      go_simp
      refine hK.out _ _ ⟨s0, s1, s2⟩ (fun hHeld => ?_)
      clear hK K
      try simp only [Act.put, List.setIfInBounds_toArray, List.set_cons_zero, List.set_cons_succ]
      refine wpAnyH_take (i := 7) (oi := { dst := some 25, op := Op.move (Operand.tmp 32), type := 86, pos := "text.go:64", after := #[{ on := 6, ground := Ground.data }], guard := none }) (v := ?_) rfl (by kernel_rfl) (by kernel_rfl) (by kernel_rfl) (fun _ _ _ h => h) (Or.inl ⟨by rfl, ?_⟩) hHeld ?_
      case refine_2 => intro w hSw; (try dsimp only at hSw); go_simp; try with_reducible rfl
      try simp only [Act.put, List.setIfInBounds_toArray, List.set_cons_zero, List.set_cons_succ]
      refine wpAnyH_take (i := 8) (oi := { dst := some 33, op := Op.extract (Operand.tmp 25) 0, type := 25, pos := "text.go:64", after := #[{ on := 7, ground := Ground.data }], guard := none }) (v := ?_) rfl (by kernel_rfl) (by kernel_rfl) (by kernel_rfl) (fun _ _ _ h => h) (Or.inl ⟨by rfl, ?_⟩) hHeld ?_
      case refine_2 => intro w hSw; (try dsimp only at hSw); go_simp; try with_reducible rfl
      try simp only [Act.put, List.setIfInBounds_toArray, List.set_cons_zero, List.set_cons_succ]
      refine wpAnyH_take (i := 9) (oi := { dst := some 34, op := Op.extract (Operand.tmp 25) 1, type := 4, pos := "text.go:64", after := #[{ on := 7, ground := Ground.data }, { on := 12, ground := Ground.gcOnly Departure.lateStores }], guard := none }) (v := ?_) rfl (by kernel_rfl) (by kernel_rfl) (by kernel_rfl) (fun _ _ _ h => h) (Or.inl ⟨by rfl, ?_⟩) hHeld ?_
      case refine_2 => intro w hSw; (try dsimp only at hSw); go_simp; try with_reducible rfl
      try simp only [Act.put, List.setIfInBounds_toArray, List.set_cons_zero, List.set_cons_succ]
      refine wpAnyH_take (i := 10) (oi := { dst := some 35, op := Op.nilCheck (Operand.tmp 26), type := 0, pos := "text.go:64", after := #[{ on := 0, ground := Ground.data }, { on := 0, ground := Ground.phase }, { on := 1, ground := Ground.phase }, { on := 2, ground := Ground.phase }, { on := 3, ground := Ground.phase }, { on := 4, ground := Ground.phase }, { on := 5, ground := Ground.phase }, { on := 6, ground := Ground.phase }, { on := 7, ground := Ground.phase }, { on := 8, ground := Ground.phase }, { on := 9, ground := Ground.textOnly Departure.lateStores }], guard := none }) (v := ?_) rfl (by kernel_rfl) (by kernel_rfl) (by kernel_rfl) (fun _ _ _ h => h) (Or.inl ⟨by rfl, ?_⟩) hHeld ?_
      case refine_2 => intro w hSw; (try dsimp only at hSw); go_simp; try with_reducible rfl
      try simp only [Act.put, List.setIfInBounds_toArray, List.set_cons_zero, List.set_cons_succ]
      refine wpAnyH_take (i := 11) (oi := { dst := some 36, op := Op.fieldAddr 28 (Operand.tmp 35) 0, type := 0, pos := "text.go:64", after := #[{ on := 10, ground := Ground.data }, { on := 0, ground := Ground.phase }, { on := 1, ground := Ground.phase }, { on := 2, ground := Ground.phase }, { on := 3, ground := Ground.phase }, { on := 4, ground := Ground.phase }, { on := 5, ground := Ground.phase }, { on := 6, ground := Ground.phase }, { on := 7, ground := Ground.phase }, { on := 8, ground := Ground.phase }, { on := 9, ground := Ground.textOnly Departure.lateStores }], guard := none }) (v := ?_) rfl (by kernel_rfl) (by kernel_rfl) (by kernel_rfl) (fun _ _ _ h => h) (Or.inl ⟨by rfl, ?_⟩) hHeld ?_
      case refine_2 => intro w hSw; (try dsimp only at hSw); go_simp; try with_reducible rfl
      try simp only [Act.put, List.setIfInBounds_toArray, List.set_cons_zero, List.set_cons_succ]
      refine wpAnyH_ready (rs := [12]) (by kernel_rfl) (by simp) ?_
      refine AllReadyH.cons (o := { dst := none, op := Op.store 25 (Operand.tmp 36) (Operand.tmp 33), type := 0, pos := "text.go:64", after := #[{ on := 11, ground := Ground.data }, { on := 8, ground := Ground.data }, { on := 6, ground := Ground.chain }, { on := 0, ground := Ground.phase }, { on := 1, ground := Ground.phase }, { on := 2, ground := Ground.phase }, { on := 3, ground := Ground.phase }, { on := 4, ground := Ground.phase }, { on := 5, ground := Ground.phase }, { on := 6, ground := Ground.phase }, { on := 7, ground := Ground.phase }, { on := 8, ground := Ground.phase }, { on := 9, ground := Ground.textOnly Departure.lateStores }], guard := none }) rfl (fun K hK => ?_) AllReadyH.nil
      go_simp
      refine hK.out _ _ (by go_keep) (fun hHeld => ?_)
      clear hK K
      try simp only [Act.put, List.setIfInBounds_toArray, List.set_cons_zero, List.set_cons_succ]
      refine wpAnyH_take (i := 13) (oi := { dst := some 7, op := Op.assign (Operand.tmp 34), type := 4, pos := "text.go:64", after := #[{ on := 9, ground := Ground.data }, { on := 12, ground := Ground.chain }, { on := 0, ground := Ground.phase }, { on := 1, ground := Ground.phase }, { on := 2, ground := Ground.phase }, { on := 3, ground := Ground.phase }, { on := 4, ground := Ground.phase }, { on := 5, ground := Ground.phase }, { on := 6, ground := Ground.phase }, { on := 7, ground := Ground.phase }, { on := 8, ground := Ground.phase }, { on := 9, ground := Ground.phase }, { on := 10, ground := Ground.phase }, { on := 11, ground := Ground.phase }, { on := 12, ground := Ground.phase }], guard := none }) (v := ?_) rfl (by kernel_rfl) (by kernel_rfl) (by kernel_rfl) (fun _ _ _ h => h) (Or.inl ⟨by rfl, ?_⟩) hHeld ?_
      case refine_2 => intro w hSw; (try dsimp only at hSw); go_simp; try with_reducible rfl
      try simp only [Act.put, List.setIfInBounds_toArray, List.set_cons_zero, List.set_cons_succ]
      refine wpAnyH_done (by kernel_rfl) ?_ _
      have c9 := (HW7.out.other ⟨pb, 0, none⟩ (.slice x' n' cap') hpw2).cell 0
      have HP8 := hd (HP7.out.set 0 (.slice x' n' cap'))
      have HO8 := hd (own_set HOW.out HP7.out (by decide) 0 (.slice x' n' cap'))
      have HQ8 := hd (own_set ((own_below HO2.out HB6.out.drew).kept HGR.out HN2.out) HP7.out (by decide) 0 (.slice x' n' cap'))
      have HB8 := hd (below_setCell (((HB6.out.drew).mono (Nat.le_trans hBp (Nat.le_of_lt HLT.out))).trans (below_grown HGR.out (Nat.le_trans hBp (Nat.le_of_lt (Nat.lt_of_lt_of_le HLT.out HB6.out.size))) (fun g hg => (HROW.out g hg).1))) ⟨pb, 0, none⟩ (.slice x' n' cap') hBp)
      generalize w7.setCell ⟨pb, 0, none⟩ (.slice x' n' cap') = w8 at *
      simp at c9
      have HZ := hd fun z hz => heed_rule_end (z := z) HE.out HM.out (by rw [HHW.out]; exact HQ.out) HPQ.out HL6.out HOK.out HT.out HT2.out hL2 hBp HB8.out HP8.out HO8.out HQ8.out hz
      clear s0 s1 s2 s3 s4 c0 c1 c2 c3 HP7 HA7 HOW HGR HW7 hHeld
      by_cases hL0 : L = 0
      · subst hL0
        cases rt <;> cases okc
        all_goals
          go_wp2_with fail
          go_ret
          exact HZ.out _ rfl
      · have hLz : ((L : Int) == 0) = false := by rw [beq_eq_false_iff_ne]; omega
        have HLz := hd hL0
        clear hL0
        cases rt <;> cases okc
        all_goals
          go_wp2_with fail
          go_ret
          exact HZ.out _ (by rw [decide_eq_false HLz.out]; rfl)
    · have HQ := hd hq
      cases hq2 : (hw.toList == [114, 101, 97, 100, 101, 114])
      · have HQ2 := hd hq2
        have HZ := hd (heed_other_end (w8 := w3) HE.out HM.out (by rw [HHW.out]; exact HQ.out) (by rw [HHW.out]; exact HQ2.out) (HB3.out.mono (Nat.le_trans hBp (Nat.le_of_lt HLT.out))) (HB.out.keep HB3.out))
        go_wp2_with fail
        go_ret
        exact HZ.out
      · have HQ2 := hd hq2
        obtain ⟨nm, hnm⟩ : ∃ nm, hdW ps.tail = nm := ⟨_, rfl⟩
        have HRU : Hid (∀ w, Ws w wb (wb + 1) ps.tail → Glob w → Calls Tryz.prog 43 #[.pointer (some ⟨wb, 0, none⟩)] w fun e w' => ∃ (x p k b : Int) (ok : Bool), e = .returned (.tuple #[.agg #[.string nm, .int .i64 x, .int .u32 p, .int .i64 k, .int .i64 b], .bool ok]) ∧
            rdrP ps.tail = (if ok then some (nm, x, p, k, b) else none) ∧ Ws w' wb (wb + 1) ps.tail.tail.tail.tail.tail ∧ Kp (fun k => k = wb) w w') := hd fun w h hg => by
          rw [← hnm]
          exact reader_ok h (by have := HWB.out; have := HLT.out; omega) hg
        clear hnm
        go_wp2_with fail
        have B4 := hd (below1 w3 (Obj.cells #[Value.string ⟨#[]⟩, Value.int IntKind.i64 0, Value.int IntKind.u32 0, Value.int IntKind.i64 0, Value.int IntKind.i64 0] 39))
        have A4 := hd (Bk.new w3 39 #[Value.string ⟨#[]⟩, Value.int IntKind.i64 0, Value.int IntKind.u32 0, Value.int IntKind.i64 0, Value.int IntKind.i64 0])
        generalize w3.alloc (Obj.cells #[Value.string ⟨#[]⟩, Value.int IntKind.i64 0, Value.int IntKind.u32 0, Value.int IntKind.i64 0, Value.int IntKind.i64 0] 39) = w4 at *
        have HW3 : Hid (wb < w3.heap.size) := hd H3.out.lt
        obtain ⟨rb, hrb⟩ : ∃ rb, w3.heap.size = rb := ⟨_, rfl⟩
        have HRB := hd hrb
        rw [hrb] at A4 HW3 ⊢
        clear hrb
        have HNE : Hid (rb ≠ wb) := hd (by have := HW3.out; omega)
        have H4 := hd (H3.out.below B4.out)
        have HB4 := hd (below_below HB3.out B4.out)
        refine (HRU.out w4 H4.out (HG.out.keep HB4.out)).mono ?_
        rintro e w5 ⟨X, P, ka, kb, rt, rfl, hpq, h5, k5⟩
        have HPQ := hd hpq
        clear hpq
        have H5 := hd h5
        have A5 := hd (A4.out.kp k5 HNE.out)
        have HB5 := hd (HB4.out.trans (k5.belowB HB4.out.size (fun k hk => by have := HWB.out; omega)))
        clear h5 k5 HB4 H4 HB3 B4 A4 HRU H3
        have f0 := A5.out.fz 0
        have f1 := A5.out.fz 1
        have f2 := A5.out.fz 2
        have f3 := A5.out.fz 3
        have f4 := A5.out.fz 4
        have c0 := A5.out.cell 0
        have c1 := A5.out.cell 1
        have c2 := A5.out.cell 2
        have c3 := A5.out.cell 3
        have c4 := A5.out.cell 4
        simp at c0 c1 c2 c3 c4
        go_wp2_with fail
        have hrw : w.heap.size ≤ rb := by have := HWB.out; have := HW3.out; omega
        have A6 := ((((A5.out.set 0 (.string nm)).set 1 (.int .i64 X)).set 2 (.int .u32 P)).set 3 (.int .i64 ka)).set 4 (.int .i64 kb)
        have B6 := below_setCell (below_setCell (below_setCell (below_setCell (below_setCell HB5.out ⟨rb, 0, none⟩ (.string nm) hrw) ⟨rb, 1, none⟩ (.int .i64 X) hrw) ⟨rb, 2, none⟩ (.int .u32 P) hrw) ⟨rb, 3, none⟩ (.int .i64 ka) hrw) ⟨rb, 4, none⟩ (.int .i64 kb) hrw
        have hwr : wb < rb := HW3.out
        have H6 := H5.out.belowG (below_setCell (below_setCell (below_setCell (below_setCell (below_setCell (Below.refl (wb + 1) w5) ⟨rb, 0, none⟩ (.string nm) hwr) ⟨rb, 1, none⟩ (.int .i64 X) hwr) ⟨rb, 2, none⟩ (.int .u32 P) hwr) ⟨rb, 3, none⟩ (.int .i64 ka) hwr) ⟨rb, 4, none⟩ (.int .i64 kb) hwr)
        generalize ((((w5.setCell ⟨rb, 0, none⟩ (.string nm)).setCell ⟨rb, 1, none⟩ (.int .i64 X)).setCell ⟨rb, 2, none⟩ (.int .u32 P)).setCell ⟨rb, 3, none⟩ (.int .i64 ka)).setCell ⟨rb, 4, none⟩ (.int .i64 kb) = W at *
        clear f0 f1 f2 f3 f4 c0 c1 c2 c3 c4 A5 H5 HB5 hwr
        have HA6 : Hid (Bk W rb 39 #[.string nm, .int .i64 X, .int .u32 P, .int .i64 ka, .int .i64 kb]) := hd A6
        have HB6 := hd B6
        obtain ⟨h61, h62, v6, h63, h64⟩ := H6
        obtain ⟨x6, cap6, rfl⟩ := h64.form
        have HW6 := hd h63
        obtain ⟨L, hL⟩ : ∃ L, ps.tail.tail.tail.tail.tail.length = L := ⟨_, rfl⟩
        rw [hL] at HW6
        have HL6 := hd hL
        clear A6 B6 h61 h62 h63 h64 hL
        have HP6 := hd (HB.out.keep HB6.out)
        have hpr : pb ≠ rb := by have := HLT.out; omega
        have hpr2 : rb ≠ pb := fun e => hpr e.symm
        have hpw : pb ≠ wb := by have := HLT.out; have := HWB.out; omega
        have hpw2 : wb ≠ pb := fun e => hpw e.symm
        have HRW := hd hrw
        clear hrw
        obtain ⟨okc, hokc⟩ : ∃ okc, (!has (α := ReaderD) Prod.fst nm xq && decide (xq.length < 16)) = okc := ⟨_, rfl⟩
        have HPL : Hid (Calls Tryz.prog 44 #[vq, (.agg #[.string nm, .int .i64 X, .int .u32 P, .int .i64 ka, .int .i64 kb]), .int .i64 16, .func (.func 28) #[] #[]] W.drew fun e w' => ∃ x' n' cap', e = .returned (.tuple #[.slice x' n' cap', .bool okc]) ∧ OwQ B w' (.slice x' n' cap') (if okc then ins (α := ReaderD) Prod.fst (nm, X, P, ka, kb) xq else []) ∧ W.drew.grownBy w' vq.ownBlock) := hd (by
          refine (placedQ (x := X) (p := P) (a := ka) (b := kb) (s := nm) (own_below HO2.out HB6.out.drew) HT2.out hL2 (Nat.le_trans hBp (Nat.le_of_lt (Nat.lt_of_lt_of_le HLT.out HB6.out.size)))).mono ?_
          rintro e w' ⟨v', ok, rfl, h1, h2, h3⟩
          obtain rfl : ok = okc := h1.trans hokc
          obtain ⟨x', n', cap', rfl⟩ := own_form h2
          exact ⟨x', n', cap', rfl, h2, h3⟩)
        have HOK := hd hokc
        clear hokc
        have HROW := hd (own_lt HO2.out)
        have HNP := hd (own_ne HO2.out HB.out (by decide))
        have HN2 := hd (own_ne2 HO1.out HO2.out (by decide))
        generalize vq.ownBlock = row at *
        have c0 := HA6.out.cell 0
        have c1 := HA6.out.cell 1
        have c2 := HA6.out.cell 2
        have c3 := HA6.out.cell 3
        have c4 := HA6.out.cell 4
        have c5 := HP6.out.cell 1
        simp at c0 c1 c2 c3 c4 c5
        refine wp_region_held_drew (S := (fun W => W.cell? ⟨rb, 0, none⟩ = some (.string nm) ∧ W.cell? ⟨rb, 1, none⟩ = some (.int .i64 X) ∧ W.cell? ⟨rb, 2, none⟩ = some (.int .u32 P) ∧ W.cell? ⟨rb, 3, none⟩ = some (.int .i64 ka) ∧ W.cell? ⟨rb, 4, none⟩ = some (.int .i64 kb))) (by kernel_rfl) ⟨c0, c1, c2, c3, c4⟩ (fun hHeld => ?_)
        refine wpAnyH_take (i := 0) (oi := { dst := some 44, op := Op.move (Operand.tmp 0), type := 64, pos := "text.go:68", after := #[], guard := none }) (v := ?_) rfl (by kernel_rfl) (by kernel_rfl) (by kernel_rfl) (fun _ _ _ h => h) (Or.inl ⟨by rfl, ?_⟩) hHeld ?_
        case refine_2 => intro w hSw; (try dsimp only at hSw); go_simp; try with_reducible rfl
        try simp only [Act.put, List.setIfInBounds_toArray, List.set_cons_zero, List.set_cons_succ]
        refine wpAnyH_take (i := 1) (oi := { dst := some 45, op := Op.move (Operand.tmp 0), type := 64, pos := "text.go:68", after := #[], guard := none }) (v := ?_) rfl (by kernel_rfl) (by kernel_rfl) (by kernel_rfl) (fun _ _ _ h => h) (Or.inl ⟨by rfl, ?_⟩) hHeld ?_
        case refine_2 => intro w hSw; (try dsimp only at hSw); go_simp; try with_reducible rfl
        try simp only [Act.put, List.setIfInBounds_toArray, List.set_cons_zero, List.set_cons_succ]
        refine wpAnyH_take (i := 2) (oi := { dst := some 46, op := Op.nilCheck (Operand.tmp 45), type := 0, pos := "text.go:68", after := #[{ on := 1, ground := Ground.data }], guard := none }) (v := ?_) rfl (by kernel_rfl) (by kernel_rfl) (by kernel_rfl) (fun _ _ _ h => h) (Or.inl ⟨by rfl, ?_⟩) hHeld ?_
        case refine_2 => intro w hSw; (try dsimp only at hSw); go_simp; try with_reducible rfl
        try simp only [Act.put, List.setIfInBounds_toArray, List.set_cons_zero, List.set_cons_succ]
        refine wpAnyH_take (i := 3) (oi := { dst := some 47, op := Op.fieldAddr 28 (Operand.tmp 46) 1, type := 0, pos := "text.go:68", after := #[{ on := 2, ground := Ground.data }], guard := none }) (v := ?_) rfl (by kernel_rfl) (by kernel_rfl) (by kernel_rfl) (fun _ _ _ h => h) (Or.inl ⟨by rfl, ?_⟩) hHeld ?_
        case refine_2 => intro w hSw; (try dsimp only at hSw); go_simp; try with_reducible rfl
        try simp only [Act.put, List.setIfInBounds_toArray, List.set_cons_zero, List.set_cons_succ]
        refine wpAnyH_take (i := 5) (oi := { dst := some 49, op := Op.load 39 (Operand.tmp 9), type := 39, pos := "text.go:68", after := #[], guard := none }) (v := ?_) rfl (by kernel_rfl) (by kernel_rfl) (by kernel_rfl) (fun _ _ _ h => h) (Or.inl ⟨by rfl, ?_⟩) hHeld ?_
        case refine_2 => intro w hSw; (try dsimp only at hSw); go_simp; try with_reducible rfl
        try simp only [Act.put, List.setIfInBounds_toArray, List.set_cons_zero, List.set_cons_succ]
        refine wpAnyH_ready (rs := [4]) (by kernel_rfl) (by simp) ?_
        refine AllReadyH.cons (o := { dst := some 48, op := Op.load 26 (Operand.tmp 47), type := 26, pos := "text.go:68", after := #[{ on := 3, ground := Ground.data }], guard := none }) rfl (fun K hK => ?_) AllReadyH.nil
        go_simp
        refine hK.out _ _ ⟨c0, c1, c2, c3, c4⟩ (fun hHeld => ?_)
        clear hK K
        try simp only [Act.put, List.setIfInBounds_toArray, List.set_cons_zero, List.set_cons_succ]
        refine wpAnyH_ready (rs := [6]) (by kernel_rfl) (by simp) ?_
        refine AllReadyH.cons (o := { dst := some 50, op := Op.call { callee := Callee.value (Operand.func 44), args := #[Operand.tmp 48, Operand.tmp 49, Operand.const (Value.int IntKind.i64 16), Operand.func 28], argTypes := #[26, 39, 3, 72] }, type := 90, pos := "text.go:68", after := #[{ on := 4, ground := Ground.data }, { on := 5, ground := Ground.data }], guard := none }) rfl (fun K hK => ?_) AllReadyH.nil
        go_simp
        refine HPL.out.mono ?_
        rintro e w7 ⟨x', n', cap', rfl, hown, hgr⟩
        have HOW := hd hown
        have HGR := hd hgr
        have A7 := HA6.out.drew.grown hgr (fun e => by have := HROW.out rb e; have := HRW.out; omega)
        have s0 := A7.cell 0
        have s1 := A7.cell 1
        have s2 := A7.cell 2; have s5 := A7.cell 3; have s6 := A7.cell 4
        have P7 := HP6.out.drew.grown hgr HNP.out
        have s4 := P7.fz 1
        have s3 := P7.cell 1
        have HP7 := hd P7
        have HA7 := hd A7
        simp at s0 s1 s2 s3 s5 s6
        have HW7 := hd (HW6.out.drew.grown hgr (fun e => by have := HROW.out wb e; have := HWB.out; omega))
        clear A7 P7 hown hgr
        go_simp
        refine hK.out _ _ ⟨s0, s1, s2, s5, s6⟩ (fun hHeld => ?_)
        clear hK K
        try simp only [Act.put, List.setIfInBounds_toArray, List.set_cons_zero, List.set_cons_succ]
        refine wpAnyH_take (i := 7) (oi := { dst := some 43, op := Op.move (Operand.tmp 50), type := 90, pos := "text.go:68", after := #[{ on := 6, ground := Ground.data }], guard := none }) (v := ?_) rfl (by kernel_rfl) (by kernel_rfl) (by kernel_rfl) (fun _ _ _ h => h) (Or.inl ⟨by rfl, ?_⟩) hHeld ?_
        case refine_2 => intro w hSw; (try dsimp only at hSw); go_simp; try with_reducible rfl
        try simp only [Act.put, List.setIfInBounds_toArray, List.set_cons_zero, List.set_cons_succ]
        refine wpAnyH_take (i := 8) (oi := { dst := some 51, op := Op.extract (Operand.tmp 43) 0, type := 26, pos := "text.go:68", after := #[{ on := 7, ground := Ground.data }], guard := none }) (v := ?_) rfl (by kernel_rfl) (by kernel_rfl) (by kernel_rfl) (fun _ _ _ h => h) (Or.inl ⟨by rfl, ?_⟩) hHeld ?_
        case refine_2 => intro w hSw; (try dsimp only at hSw); go_simp; try with_reducible rfl
        try simp only [Act.put, List.setIfInBounds_toArray, List.set_cons_zero, List.set_cons_succ]
        refine wpAnyH_take (i := 9) (oi := { dst := some 52, op := Op.extract (Operand.tmp 43) 1, type := 4, pos := "text.go:68", after := #[{ on := 7, ground := Ground.data }, { on := 12, ground := Ground.gcOnly Departure.lateStores }], guard := none }) (v := ?_) rfl (by kernel_rfl) (by kernel_rfl) (by kernel_rfl) (fun _ _ _ h => h) (Or.inl ⟨by rfl, ?_⟩) hHeld ?_
        case refine_2 => intro w hSw; (try dsimp only at hSw); go_simp; try with_reducible rfl
        try simp only [Act.put, List.setIfInBounds_toArray, List.set_cons_zero, List.set_cons_succ]
        refine wpAnyH_take (i := 10) (oi := { dst := some 53, op := Op.nilCheck (Operand.tmp 44), type := 0, pos := "text.go:68", after := #[{ on := 0, ground := Ground.data }, { on := 0, ground := Ground.phase }, { on := 1, ground := Ground.phase }, { on := 2, ground := Ground.phase }, { on := 3, ground := Ground.phase }, { on := 4, ground := Ground.phase }, { on := 5, ground := Ground.phase }, { on := 6, ground := Ground.phase }, { on := 7, ground := Ground.phase }, { on := 8, ground := Ground.phase }, { on := 9, ground := Ground.textOnly Departure.lateStores }], guard := none }) (v := ?_) rfl (by kernel_rfl) (by kernel_rfl) (by kernel_rfl) (fun _ _ _ h => h) (Or.inl ⟨by rfl, ?_⟩) hHeld ?_
        case refine_2 => intro w hSw; (try dsimp only at hSw); go_simp; try with_reducible rfl
        try simp only [Act.put, List.setIfInBounds_toArray, List.set_cons_zero, List.set_cons_succ]
        refine wpAnyH_take (i := 11) (oi := { dst := some 54, op := Op.fieldAddr 28 (Operand.tmp 53) 1, type := 0, pos := "text.go:68", after := #[{ on := 10, ground := Ground.data }, { on := 0, ground := Ground.phase }, { on := 1, ground := Ground.phase }, { on := 2, ground := Ground.phase }, { on := 3, ground := Ground.phase }, { on := 4, ground := Ground.phase }, { on := 5, ground := Ground.phase }, { on := 6, ground := Ground.phase }, { on := 7, ground := Ground.phase }, { on := 8, ground := Ground.phase }, { on := 9, ground := Ground.textOnly Departure.lateStores }], guard := none }) (v := ?_) rfl (by kernel_rfl) (by kernel_rfl) (by kernel_rfl) (fun _ _ _ h => h) (Or.inl ⟨by rfl, ?_⟩) hHeld ?_
        case refine_2 => intro w hSw; (try dsimp only at hSw); go_simp; try with_reducible rfl
        try simp only [Act.put, List.setIfInBounds_toArray, List.set_cons_zero, List.set_cons_succ]
        refine wpAnyH_ready (rs := [12]) (by kernel_rfl) (by simp) ?_
        refine AllReadyH.cons (o := { dst := none, op := Op.store 26 (Operand.tmp 54) (Operand.tmp 51), type := 0, pos := "text.go:68", after := #[{ on := 11, ground := Ground.data }, { on := 8, ground := Ground.data }, { on := 6, ground := Ground.chain }, { on := 0, ground := Ground.phase }, { on := 1, ground := Ground.phase }, { on := 2, ground := Ground.phase }, { on := 3, ground := Ground.phase }, { on := 4, ground := Ground.phase }, { on := 5, ground := Ground.phase }, { on := 6, ground := Ground.phase }, { on := 7, ground := Ground.phase }, { on := 8, ground := Ground.phase }, { on := 9, ground := Ground.textOnly Departure.lateStores }], guard := none }) rfl (fun K hK => ?_) AllReadyH.nil
        go_simp
        refine hK.out _ _ (by go_keep) (fun hHeld => ?_)
        clear hK K
        try simp only [Act.put, List.setIfInBounds_toArray, List.set_cons_zero, List.set_cons_succ]
        refine wpAnyH_take (i := 13) (oi := { dst := some 7, op := Op.assign (Operand.tmp 52), type := 4, pos := "text.go:68", after := #[{ on := 9, ground := Ground.data }, { on := 12, ground := Ground.chain }, { on := 0, ground := Ground.phase }, { on := 1, ground := Ground.phase }, { on := 2, ground := Ground.phase }, { on := 3, ground := Ground.phase }, { on := 4, ground := Ground.phase }, { on := 5, ground := Ground.phase }, { on := 6, ground := Ground.phase }, { on := 7, ground := Ground.phase }, { on := 8, ground := Ground.phase }, { on := 9, ground := Ground.phase }, { on := 10, ground := Ground.phase }, { on := 11, ground := Ground.phase }, { on := 12, ground := Ground.phase }], guard := none }) (v := ?_) rfl (by kernel_rfl) (by kernel_rfl) (by kernel_rfl) (fun _ _ _ h => h) (Or.inl ⟨by rfl, ?_⟩) hHeld ?_
        case refine_2 => intro w hSw; (try dsimp only at hSw); go_simp; try with_reducible rfl
        try simp only [Act.put, List.setIfInBounds_toArray, List.set_cons_zero, List.set_cons_succ]
        refine wpAnyH_done (by kernel_rfl) ?_ _
        have c9 := (HW7.out.other ⟨pb, 1, none⟩ (.slice x' n' cap') hpw2).cell 0
        have HP8 := hd (HP7.out.set 1 (.slice x' n' cap'))
        have HO8 := hd (own_set HOW.out HP7.out (by decide) 1 (.slice x' n' cap'))
        have HQ8 := hd (own_set ((own_below HO1.out HB6.out.drew).kept HGR.out HN2.out) HP7.out (by decide) 1 (.slice x' n' cap'))
        have HB8 := hd (below_setCell (((HB6.out.drew).mono (Nat.le_trans hBp (Nat.le_of_lt HLT.out))).trans (below_grown HGR.out (Nat.le_trans hBp (Nat.le_of_lt (Nat.lt_of_lt_of_le HLT.out HB6.out.size))) (fun g hg => (HROW.out g hg).1))) ⟨pb, 1, none⟩ (.slice x' n' cap') hBp)
        generalize w7.setCell ⟨pb, 1, none⟩ (.slice x' n' cap') = w8 at *
        simp at c9
        have HZ := hd fun z hz => heed_reader_end (z := z) HE.out HM.out (by rw [HHW.out]; exact HQ.out) (by rw [HHW.out]; exact HQ2.out) HPQ.out HL6.out HOK.out HT.out HT2.out hL1 hBp HB8.out HP8.out HO8.out HQ8.out hz
        clear s0 s1 s2 s3 s4 s5 s6 c0 c1 c2 c3 c4 c5 HP7 HA7 HOW HGR HW7 hHeld
        by_cases hL0 : L = 0
        · subst hL0
          cases rt <;> cases okc
          all_goals
            go_wp2_with fail
            go_ret
            exact HZ.out _ rfl
        · have hLz : ((L : Int) == 0) = false := by rw [beq_eq_false_iff_ne]; omega
          have HLz := hd hL0
          clear hL0
          cases rt <;> cases okc
          all_goals
            go_wp2_with fail
            go_ret
            exact HZ.out _ (by rw [decide_eq_false HLz.out]; rfl)

end Go.Proofs.YtcigbfjmnhogiabGreatDoor
