/- PolicyOrder: turned lines; rows of texts that grow; numbers brought into bounds. -/
import Derived.Test.YtcigbfjmnhogiaaGreatDoorSpx
import Derived.Test.YtcigbfjmnhogiaaGreatDoorBkw
import Derived.Deep.AppendSrc
import Derived.Laws.AppendOwn
namespace Go.Proofs.YtcigbfjmnhogiaaGreatDoor
open Go.RowKit
set_option linter.unusedVariables false

theorem flat_glue {xs : List (List UInt8)} (h : xs ≠ []) : (xs.map (· ++ [10])).flatten = glue 10 xs ++ [10] := by
  rcases List.eq_nil_or_concat xs with rfl | ⟨ys, y, rfl⟩
  · exact absurd rfl h
  · rw [List.concat_eq_append, glue_snoc]
    simp
theorem wrL_trim {st : PolD} (h : lns st ≠ []) : Lib.trimSuffix (wrL st) [10] = glue 10 (lns st) := by
  have e : wrL st = glue 10 (lns st) ++ [10] := flat_glue h
  rw [e]
  unfold Lib.trimSuffix Lib.hasSuffix
  rw [if_pos (by rw [List.isSuffixOf_iff_suffix]; exact List.suffix_append _ _)]
  simp
theorem lns_cut {st : PolD} (hg : GoodP st) (h : lns st ≠ []) : cutL 10 (glue 10 (lns st)) = lns st := cutL_glue 10 h (lns_no10 hg)
theorem lns_len {st : PolD} (hg : GoodP st) : (lns st).length ≤ 80 := by
  unfold lns
  rw [List.length_append, List.length_map, List.length_map]
  have := hg.lr
  have := hg.lq
  omega
theorem wrL_nil {st : PolD} : wrL st = [] ↔ lns st = [] := by
  constructor
  · intro h
    by_cases hn : lns st = []
    · exact hn
    · have e : wrL st = glue 10 (lns st) ++ [10] := flat_glue hn
      rw [h] at e
      simp at e
  · intro h
    unfold wrL
    rw [h]
    rfl

/-- Turned by so much. -/
def rot {α : Type} (l : List α) (c : Nat) : List α := l.drop c ++ l.take c
theorem rot_len {α : Type} (l : List α) (c : Nat) (hc : c ≤ l.length) : (rot l c).length = l.length := by
  unfold rot
  rw [List.length_append, List.length_drop, List.length_take]
  omega
theorem rot_get {α : Type} [Inhabited α] (l : List α) (c i : Nat) (hc : c < l.length) (hi : i < l.length) : (rot l c)[i]! = l[(i + c) % l.length]! := by
  have h1 : i < (l.drop c ++ l.take c).length := by rw [List.length_append, List.length_drop, List.length_take]; omega
  have h2 : (i + c) % l.length < l.length := Nat.mod_lt _ (by omega)
  show (l.drop c ++ l.take c)[i]! = _
  rw [getElem!_pos (l.drop c ++ l.take c) i h1, getElem!_pos l ((i + c) % l.length) h2]
  by_cases h : i < l.length - c
  · rw [List.getElem_append_left (by rw [List.length_drop]; exact h), List.getElem_drop]
    congr 1
    rw [Nat.mod_eq_of_lt (by omega)]
    omega
  · rw [List.getElem_append_right (by rw [List.length_drop]; omega), List.getElem_take]
    congr 1
    rw [List.length_drop, Nat.mod_eq_sub_mod (by omega), Nat.mod_eq_of_lt (by omega)]
    omega
theorem rot_perm {α : Type} (l : List α) (c : Nat) : (rot l c).Perm l := by
  have h : (rot l c).Perm (l.take c ++ l.drop c) := List.perm_append_comm
  rwa [List.take_append_drop] at h
theorem rot_map {α β : Type} (f : α → β) (l : List α) (c : Nat) : (rot l c).map f = rot (l.map f) c := by
  unfold rot
  rw [List.map_append, List.map_drop, List.map_take]

/-- # rule x -/
abbrev remX : List UInt8 := [35, 32, 114, 117, 108, 101, 32, 120]
/-- The turned lines after k of them; where line a stands, two that say nothing stand ahead. -/
def trn (R : List (List UInt8)) (a k : Nat) : List (List UInt8) := if k ≤ a then R.take k else R.take a ++ [[], remX] ++ (R.drop a).take (k - a)
theorem trn_zero (R : List (List UInt8)) (a : Nat) : trn R a 0 = [] := by
  unfold trn
  rw [if_pos (Nat.zero_le _), List.take_zero]
theorem take_one {α : Type} [Inhabited α] (l : List α) (k : Nat) (h : k < l.length) : l.take (k + 1) = l.take k ++ [l[k]!] := by
  rw [List.take_succ_eq_append_getElem h, getElem!_pos l k h]
theorem trn_at (R : List (List UInt8)) (a : Nat) (h : a < R.length) : trn R a (a + 1) = (trn R a a ++ [[], remX]) ++ [R[a]!] := by
  unfold trn
  rw [if_neg (by omega), if_pos (Nat.le_refl a)]
  have e : a + 1 - a = 1 := by omega
  rw [e, take_one (R.drop a) 0 (by rw [List.length_drop]; omega)]
  rw [getElem!_pos _ 0 (by rw [List.length_drop]; omega), getElem!_pos _ a h, List.getElem_drop]
  simp
theorem trn_off (R : List (List UInt8)) (a k : Nat) (h : k < R.length) (hk : k ≠ a) : trn R a (k + 1) = trn R a k ++ [R[k]!] := by
  unfold trn
  by_cases h1 : k + 1 ≤ a
  · rw [if_pos h1, if_pos (by omega), take_one R k h]
  · rw [if_neg h1, if_neg (by omega)]
    have e : k + 1 - a = (k - a) + 1 := by omega
    rw [e, take_one (R.drop a) (k - a) (by rw [List.length_drop]; omega), List.append_assoc (List.take a R ++ [[], remX])]
    congr 2
    rw [getElem!_pos _ (k - a) (by rw [List.length_drop]; omega), getElem!_pos _ k h, List.getElem_drop]
    congr 2
    omega
theorem trn_all (R : List (List UInt8)) (a : Nat) (h : a < R.length) : trn R a R.length = R.take a ++ [[], remX] ++ R.drop a := by
  unfold trn
  rw [if_neg (by omega), List.take_of_length_le (l := R.drop a) (by rw [List.length_drop]; exact Nat.le_refl _)]
theorem trn_len (R : List (List UInt8)) (a k : Nat) : (trn R a k).length ≤ k + 2 := by
  unfold trn
  split
  · rw [List.length_take]; omega
  · simp
    omega
theorem heedM_rem (st : PolD) : heedM st (tB remX) = some st := by
  have e : ((tB remX).size == 0 || isRem (tB remX)) = true := by decide
  unfold heedM
  rw [e]
  rfl
theorem says_trn (E : List Ent) (a : Nat) (h : a < E.length) : Says (trn (E.map lnE) a (E.map lnE).length) E := by
  rw [trn_all _ a (by rw [List.length_map]; exact h), ← List.map_take, ← List.map_drop]
  have h1 : Says ([[], remX] : List (List UInt8)) [] := .noop heedM_nil (.noop heedM_rem .nil)
  have h2 := ((Says.ents (E.take a)).append h1).append (Says.ents (E.drop a))
  rw [List.append_nil, List.take_append_drop] at h2
  exact h2
theorem trn_no10 {R : List (List UInt8)} (h : ∀ l ∈ R, (10 : UInt8) ∉ l) (a k : Nat) : ∀ l ∈ trn R a k, (10 : UInt8) ∉ l := by
  intro l hl
  unfold trn at hl
  split at hl
  · exact h l (List.mem_of_mem_take hl)
  · rcases List.mem_append.1 hl with hl | hl
    · rcases List.mem_append.1 hl with hl | hl
      · exact h l (List.mem_of_mem_take hl)
      · rcases List.mem_cons.1 hl with rfl | hl
        · simp
        · simp only [List.mem_singleton] at hl
          rw [hl]
          decide
    · exact h l (List.mem_of_mem_drop (List.mem_of_mem_take hl))
theorem parse_trn {st : PolD} (hg : GoodP st) {a c : Nat} (ha : a < (lns st).length) (hc : c < (lns st).length) : parseM (tB (glue 10 (trn (rot (lns st) c) a (lns st).length))) = (some st, 0) := by
  have e : rot (lns st) c = (rot (ents st) c).map lnE := by rw [rot_map, lns_ents]
  have hlen : (rot (lns st) c).length = (lns st).length := rot_len _ _ (by omega)
  have hel : (rot (ents st) c).length = (lns st).length := by rw [← hlen, e, List.length_map]
  have hs := says_trn (rot (ents st) c) a (by rw [hel]; exact ha)
  rw [← e, hlen] at hs
  refine parse_turned hg hs (rot_perm _ _) ?_ (trn_no10 ?_ a _)
  · rw [← hlen, trn_all _ a (by rw [hlen]; exact ha)]
    simp
  · intro l hl
    exact lns_no10 hg l ((rot_perm (lns st) c).mem_iff.1 hl)
theorem lns_ent {st : PolD} {i : Nat} (hi : i < (lns st).length) : ∃ e ∈ ents st, (lns st)[i]! = lnE e := by
  rw [getElem!_pos _ i hi]
  have : (lns st)[i] ∈ (ents st).map lnE := by rw [← lns_ents]; exact List.getElem_mem hi
  obtain ⟨e, he, h⟩ := List.mem_map.1 this
  exact ⟨e, he, h.symm⟩
theorem ln_len {st : PolD} (hg : GoodP st) : ∀ l ∈ lns st, l.length ≤ 58 := by
  intro l hl
  rw [lns_ents] at hl
  obtain ⟨e, he, rfl⟩ := List.mem_map.1 hl
  cases e with
  | inl r =>
    have := lnR_len (hg.gr r ((mem_entsR st r).1 he)).1
    show (lnR r).length ≤ 58
    omega
  | inr r => exact lnQ_len (hg.gq r ((mem_entsQ st r).1 he)).1
theorem glue_le {xs : List (List UInt8)} {n : Nat} (h : ∀ l ∈ xs, l.length ≤ n) : (glue 10 xs).length ≤ xs.length * (n + 1) := by
  by_cases hx : xs = []
  · subst hx
    simp [glue]
  · have h1 := glue_length 10 hx
    have h2 := szL_le (L := xs) (n := n + 1) (fun l hl => by have := h l hl; omega)
    unfold szL at h2
    omega
theorem trn_size {st : PolD} (hg : GoodP st) (a c k : Nat) (hk : k ≤ 80) : (glue 10 (trn (rot (lns st) c) a k)).length ≤ 10000 := by
  have h1 := glue_le (xs := trn (rot (lns st) c) a k) (n := 58) (by
    intro l hl
    have hr : ∀ l ∈ rot (lns st) c, l.length ≤ 58 := fun l hl => ln_len hg l ((rot_perm (lns st) c).mem_iff.1 hl)
    unfold trn at hl
    split at hl
    · exact hr l (List.mem_of_mem_take hl)
    · rcases List.mem_append.1 hl with hl | hl
      · rcases List.mem_append.1 hl with hl | hl
        · exact hr l (List.mem_of_mem_take hl)
        · rcases List.mem_cons.1 hl with rfl | hl
          · simp
          · simp only [List.mem_singleton] at hl
            rw [hl]
            decide
      · exact hr l (List.mem_of_mem_drop (List.mem_of_mem_take hl)))
  have h2 := trn_len (rot (lns st) c) a k
  have h3 : (trn (rot (lns st) c) a k).length * (58 + 1) ≤ 82 * 59 := Nat.mul_le_mul (by omega) (by omega)
  omega

/-- A row of texts of its own. -/
def OwS (B : Nat) (w : World) (v : Value) (l : List ByteArray) : Prop := l.length ≤ 1000 ∧ w.ownsRow B 9 1 v l.length (l.map Value.string)
theorem OwS.keep {B : Nat} {w w' : World} {v : Value} {l : List ByteArray} (h : OwS B w v l) (k : Below w.heap.size w w') : OwS B w' v l := ⟨h.1, own_below h.2 k⟩
theorem OwS.nil (B : Nat) (w : World) : OwS B w (.slice none 0 0) [] := ⟨by simp, rfl, Or.inl ⟨rfl, rfl⟩⟩
theorem info9i : ∃ i : TypeInfo, Tryz.prog.info? 9 = some i ∧ i.zero = some (.string ByteArray.empty) ∧ i.size = 1 ∧ i.bytes = 16 := ⟨(Tryz.prog.info? 9).get!, by kernel_rfl, by kernel_rfl, by kernel_rfl, by kernel_rfl⟩
/-- Texts behind them. -/
theorem append_os {B : Nat} {w : World} {v x : Value} {ld l : List ByteArray} (h : OwS B w v ld) (hx : Ts w x l) (hB : B ≤ w.heap.size) (hb : ld.length + l.length ≤ 1000) :
    ∃ v' w', (Builtin.append_ #[47, 47] 47 #[v, x]).run Tryz.prog w = .ok v' w' ∧ OwS B w' v' (ld ++ l) ∧ Below B w w' := by
  obtain ⟨i, hi, hz, hs, hby⟩ := info9i
  obtain ⟨g, rfl, hg⟩ := hx
  obtain ⟨v', w', hr, ho, hgr, _⟩ := run_append_own (P := Tryz.prog) w B 47 47 9 i _ 1 16 Tryz.underlying47 hi hz hs hby rfl (by omega) v ld.length (ld.map Value.string) h.2 ⟨g, 0, none⟩ l.length l.length (l.map Value.string) (by simp)
    (fun j u hj => by rw [Addr.add_lit, Nat.zero_add, hg.cell]; simpa using hj) (fun u hu => by obtain ⟨_, _, rfl⟩ := List.mem_map.1 hu; rfl) (by unfold maxLen; omega) (by omega) hB
  refine ⟨v', w', hr, ⟨by rw [List.length_append]; exact hb, ?_⟩, below_grown hgr hB (fun k hk => (own_lt h.2 k hk).1)⟩
  rw [List.length_append, List.map_append]
  exact ho
theorem joinN_ok {W : World} {B : Nat} {v : Value} {L : List (List UInt8)} (h : OwS B W v (L.map tB)) (hl : (glue 10 L).length ≤ 100000) :
    Calls Tryz.prog 29 #[v, .string ⟨#[10]⟩] W fun e w' => VEnd W (.string (tB (glue 10 L))) e w' := by
  have hm : (L.map tB).map (·.data.toList) = L := by
    rw [List.map_map]
    exact List.map_id L
  have e : glue 10 L = Lib.join ((L.map tB).map (·.data.toList)) [10] := by rw [hm]; exact glue_join 10 L
  obtain ⟨h1, h2⟩ := h
  have hc := fun g => h2.cells (g := g)
  rcases h2.2 with ⟨rfl, hn⟩ | ⟨g, cap, cur, rfl, _, hg, hcap, _⟩
  · have hL : L.map tB = [] := List.length_eq_zero_iff.1 hn
    have hL' : L = [] := by simpa using hL
    subst hL'
    refine (Any.strings_Join_none joinL joinX none 0 ⟨#[10]⟩ W).mono ?_
    rintro e' w' ⟨rfl, rfl⟩
    exact ⟨rfl, Below.refl _ _⟩
  · refine (Any.strings_Join joinL joinX g 0 cap (L.map tB) ⟨#[10]⟩ W (fun j x hx => ?_) (Array.getElem?_eq_some_iff.1 hg).1 (by omega) hcap ?_).mono ?_
    · have := hc g rfl j (.string x) (by rw [List.getElem?_map, hx]; rfl)
      rw [Addr.add_lit] at this
      exact this
    · show (Lib.join ((L.map tB).map (·.data.toList)) [10]).length ≤ _
      rw [← e]
      omega
    · rintro e' w' ⟨rfl, hk⟩
      refine ⟨?_, hk⟩
      rw [e]

theorem tmod_neg (i n : Int) (hn : 0 < n) (hn' : n ≤ 9007199254740992) (h : i.tmod n < 0) : wrap64 (i.tmod n + n) = i % n := by
  have h1 := Int.lt_tmod_of_pos i hn
  have h2 := Int.tmod_add_mul_tdiv i n
  have h3 : i % n = (i.tmod n + n) % n := by
    rw [← h2, Int.add_mul_emod_self_left, Int.add_emod_right, h2]
  rw [h3, Int.emod_eq_of_lt (by omega) (by omega)]
  unfold wrap64; omega
theorem tmod_pos (i n : Int) (hn : 0 < n) (h : 0 ≤ i.tmod n) : i.tmod n = i % n := by
  have h1 := Int.tmod_lt_of_pos i hn
  have h2 := Int.tmod_add_mul_tdiv i n
  have h3 : i % n = i.tmod n % n := by
    have h4 := Int.add_mul_emod_self_left (i.tmod n) n (i.tdiv n)
    rw [h2] at h4
    exact h4
  rw [h3, Int.emod_eq_of_lt h h1]
set_option maxHeartbeats 400000 in
/-- R.Bring: the remainder, from 0 on. -/
theorem bring_any (i n : Int) (w : World) (h0 : -9223372036854775808 ≤ i) (h1 : i ≤ 9223372036854775807) (hn : 0 < n) (hn' : n ≤ 9007199254740992) :
    Calls Tryz.prog 28 #[.int .i64 i, .int .i64 n] w fun e w' => e = .returned (.int .i64 (i % n)) ∧ w' = w := by
  have hz : (n == 0) = false := by rw [beq_eq_false_iff_ne]; omega
  have hm : (n == -1) = false := by rw [beq_eq_false_iff_ne]; omega
  by_cases hi : 0 ≤ i
  · have hp : 0 ≤ i % n := Int.emod_nonneg _ (by omega)
    go_enter Tryz.func28, Tryz.ntmps28
    go_wp2
    go_ret
    exact ⟨rfl, rfl⟩
  · by_cases ht : i.tmod n < 0
    · have HT := hd (tmod_neg i n hn hn' ht)
      go_enter Tryz.func28, Tryz.ntmps28
      go_wp2
      go_ret
      exact ⟨congrArg (fun x => Ending.returned (Value.int .i64 x)) HT.out, rfl⟩
    · have HT := hd (tmod_pos i n hn (by omega))
      go_enter Tryz.func28, Tryz.ntmps28
      go_wp2
      go_ret
      exact ⟨congrArg (fun x => Ending.returned (Value.int .i64 x)) HT.out, rfl⟩
theorem bring_nat (i : Int) (n : Nat) (h0 : -9223372036854775808 ≤ i) (h1 : i ≤ 9223372036854775807) (hn : 0 < n) (hn' : n ≤ 80) :
    ∃ c : Nat, c < n ∧ ∀ w, Calls Tryz.prog 28 #[.int .i64 i, .int .i64 (n : Int)] w fun e w' => e = .returned (.int .i64 (c : Int)) ∧ w' = w := by
  have h2 := Int.emod_nonneg i (b := (n : Int)) (by omega)
  have h3 := Int.emod_lt_of_pos i (b := (n : Int)) (by omega)
  refine ⟨(i % (n : Int)).toNat, by omega, fun w => ?_⟩
  have := bring_any i n w h0 h1 (by omega) (by omega)
  have e : (((i % (n : Int)).toNat : Nat) : Int) = i % (n : Int) := by omega
  rwa [e]
theorem trim_ok (s : ByteArray) (w : World) (hs : s.size ≤ 100000) : Calls Tryz.prog 27 #[.string s, .string ⟨#[10]⟩] w fun e w' => e = .returned (.string (tB (Lib.trimSuffix s.data.toList [10]))) ∧ w' = w :=
  Any.strings_TrimSuffix trimL s ⟨#[10]⟩ w (by omega)

end Go.Proofs.YtcigbfjmnhogiaaGreatDoor
