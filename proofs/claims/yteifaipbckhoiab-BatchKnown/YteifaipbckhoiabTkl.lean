/- Lists of attributes that a call has made itself; the list that is read, the program's. -/
import Derived.Test.YteifaipbckhoiabTka
import Derived.Test.YteifaipbckhoiabLi
import Derived.Maps.AppendAt
namespace Go.Proofs.Yteifaipbckhoiab
open Go.RowKit
variable {RB XB : Nat}
set_option linter.unusedVariables false

/-- The cells of a row. -/
def fl {α : Type} (enc : α → List Value) (xs : List α) : List Value := xs.flatMap enc
theorem fl_len {α : Type} {enc : α → List Value} {k : Nat} (hk : ∀ x, (enc x).length = k) : ∀ xs : List α, (fl enc xs).length = xs.length * k
  | [] => by simp [fl]
  | a :: t => by
    have ih := fl_len hk t
    unfold fl at ih ⊢
    rw [List.flatMap_cons, List.length_append, hk, ih, List.length_cons]
    rw [Nat.add_mul]
    omega
theorem fl_at {α : Type} {enc : α → List Value} {k : Nat} (hk : ∀ x, (enc x).length = k) : ∀ (xs : List α) (j : Nat) (hj : j < xs.length) (i : Nat) (u : Value), (enc xs[j])[i]? = some u → (fl enc xs)[j * k + i]? = some u
  | [], j, hj, _, _, _ => by simp at hj
  | a :: t, 0, _, i, u, h => by
    unfold fl
    rw [List.flatMap_cons, Nat.zero_mul, Nat.zero_add]
    have hi : i < (enc a).length := by
      by_cases hh : i < (enc a).length
      · exact hh
      · simp only [List.getElem_cons_zero] at h
        rw [List.getElem?_eq_none (by omega)] at h
        cases h
    rw [List.getElem?_append_left hi]
    simpa using h
  | a :: t, j + 1, hj, i, u, h => by
    have ih := fl_at hk t j (by simpa using hj) i u (by simpa using h)
    unfold fl at ih ⊢
    rw [List.flatMap_cons, List.getElem?_append_right (by rw [hk, Nat.add_mul]; omega), hk]
    rw [show (j + 1) * k + i - k = j * k + i by rw [Nat.add_mul]; omega]
    exact ih
theorem fl_append {α : Type} (enc : α → List Value) (xs ys : List α) : fl enc (xs ++ ys) = fl enc xs ++ fl enc ys := by unfold fl; simp
theorem fl_one {α : Type} (enc : α → List Value) (x : α) : fl enc [x] = enc x := by unfold fl; simp
theorem fl_take {α : Type} {enc : α → List Value} {k : Nat} (hk : ∀ x, (enc x).length = k) (xs : List α) (i : Nat) (hi : i ≤ xs.length) : (fl enc xs).take (i * k) = fl enc (xs.take i) := by
  have h : fl enc xs = fl enc (xs.take i) ++ fl enc (xs.drop i) := by rw [← fl_append, List.take_append_drop]
  rw [h, List.take_append_of_le_length (by rw [fl_len hk, List.length_take, Nat.min_eq_left hi]; exact Nat.le_refl _)]
  exact List.take_of_length_le (by rw [fl_len hk, List.length_take, Nat.min_eq_left hi]; exact Nat.le_refl _)
theorem fl_drop {α : Type} {enc : α → List Value} {k : Nat} (hk : ∀ x, (enc x).length = k) (xs : List α) (i : Nat) (hi : i ≤ xs.length) : (fl enc xs).drop (i * k) = fl enc (xs.drop i) := by
  have h : fl enc xs = fl enc (xs.take i) ++ fl enc (xs.drop i) := by rw [← fl_append, List.take_append_drop]
  have hl : (fl enc (xs.take i)).length = i * k := by rw [fl_len hk, List.length_take, Nat.min_eq_left hi]
  rw [h, ← hl, List.drop_left]
theorem fl_one' {α : Type} {enc : α → List Value} (h1 : ∀ x, ∀ u ∈ enc x, u.oneCell' = true) (xs : List α) : ∀ u ∈ fl enc xs, u.oneCell' = true := fun u hu => by
  unfold fl at hu
  rw [List.mem_flatMap] at hu
  obtain ⟨a, _, ha⟩ := hu
  exact h1 a u ha

theorem el_of_own {α : Type} {enc : α → List Value} {k : Nat} (hk : ∀ x, (enc x).length = k) {B : Nat} {t : TypeId} {w : World} {v : Value} {xs : List α} (h : w.ownsRow B t k v xs.length (fl enc xs)) (hn : xs.length ≤ 140737488355328) : El enc k w v xs := by
  rcases h.2 with ⟨rfl, h0⟩ | ⟨g, cap, cur, rfl, _, hg, hc, _, _, ht⟩
  · exact Or.inl ⟨List.eq_nil_of_length_eq_zero h0, none, 0, rfl⟩
  · refine Or.inr ⟨g, 0, cap, rfl, hc, hn, (Array.getElem?_eq_some_iff.1 hg).1, fun j hj i u hu => ?_⟩
    have h1 := h.cells (g := g) rfl (j * k + i) u (fl_at hk xs j hj i u hu)
    rw [Addr.add_lit] at h1
    rw [Nat.zero_add] at h1 ⊢
    exact h1
theorem lenA (r : AttrD) : (encA r).length = 6 := rfl
theorem oneA (r : AttrD) : ∀ u ∈ encA r, u.oneCell' = true := fun u hu => by
  unfold encA at hu
  simp only [List.mem_cons, List.not_mem_nil, or_false] at hu
  rcases hu with rfl | rfl | rfl | rfl | rfl | rfl <;> rfl
theorem info35f : ∃ i z, Try.prog.info? 44 = some i ∧ i.zero = some z ∧ z.cells.size = 6 ∧ i.size = 6 ∧ i.bytes = 64 :=
  ⟨(Try.prog.info? 44).getD default, ((Try.prog.info? 44).getD default).zero.getD undef, by kernel_rfl, by kernel_rfl, by kernel_rfl, by kernel_rfl, by kernel_rfl⟩
/-- A row of its own of attributes, from block B on. -/
def OwA (B : Nat) (w : World) (v : Value) (xs : List AttrD) : Prop := xs.length ≤ 1000 ∧ w.ownsRow B 44 6 v xs.length (fl encA xs)
theorem OwA.el {B : Nat} {w : World} {v : Value} {xs : List AttrD} (h : OwA B w v xs) : El encA 6 w v xs := el_of_own lenA h.2 (by have := h.1; omega)
theorem OwA.nil (B : Nat) (w : World) : OwA B w (.slice none 0 0) [] := ⟨by simp, World.ownsRow_nil w B 44 6⟩
theorem OwA.form {B : Nat} {w : World} {v : Value} {xs : List AttrD} (h : OwA B w v xs) : ∃ x cap, v = .slice x xs.length cap := h.el.form
theorem OwA.kp {B rb : Nat} {w w' : World} {v : Value} {xs : List AttrD} (h : OwA B w v xs) (k : Kp (fun b => b = rb) w w') (hb : rb < B) : OwA B w' v xs :=
  ⟨h.1, h.2.kept (row := some rb) ⟨k.os, k.tape, k.output, k.size, fun i hi hn => k.block i hi (fun e => hn (by rw [e]))⟩ (by
    cases hv : v.ownBlock with
    | none => exact Or.inl rfl
    | some g => refine Or.inr fun e => ?_; injection e with e; have := (h.2.lt g hv).1; omega)⟩
theorem OwA.keep {B : Nat} {w w' : World} {v : Value} {xs : List AttrD} (h : OwA B w v xs) (k : Below w.heap.size w w') : OwA B w' v xs :=
  ⟨h.1, h.2.kept (row := none) ⟨k.os, k.tape, k.output, k.size, fun i hi _ => k.block i hi⟩ (by cases hv : v.ownBlock <;> simp)⟩
theorem OwA.lower {B B' : Nat} {w : World} {v : Value} {xs : List AttrD} (h : OwA B w v xs) (hB : B' ≤ B) : OwA B' w v xs := by
  obtain ⟨h1, h3, h4⟩ := h
  refine ⟨h1, h3, ?_⟩
  rcases h4 with h4 | ⟨g, cap, cur, hv, hb, hr⟩
  · exact Or.inl h4
  · exact Or.inr ⟨g, cap, cur, hv, Nat.le_trans hB hb, hr⟩
theorem OwA.drew {B : Nat} {w : World} {v : Value} {xs : List AttrD} (h : OwA B w v xs) : OwA B w.drew v xs := h.keep (Below.refl _ _).drew
theorem OwA.app {B g : Nat} {w : World} {v : Value} {xs : List AttrD} {a : AttrD} (h : OwA B w v xs) (hx : Bk w g 44 (encA a).toArray) (hB : B ≤ w.heap.size) (hn : xs.length < 1000) (ty : TypeId) :
    ∃ v' w', (Builtin.append_ #[34, 34] ty #[v, .slice (some ⟨g, 0, none⟩) 1 1]).run Try.prog w = .ok v' w' ∧ OwA B w' v' (xs ++ [a]) ∧ Below B w w' := by
  obtain ⟨i, z, hi, hz, hzs, hs, hby⟩ := info35f
  obtain ⟨v', w', hr, ho, hg, _, hw⟩ := run_append_own_at (P := Try.prog) w B 34 ty 44 i z 6 64 Try.underlying34 hi hz hs hby hzs (by omega) v xs.length (fl encA xs) h.2 ⟨g, 0, none⟩ 1 1 (encA a) (by rw [lenA])
    (fun j u hj => by rw [Addr.add_lit, Nat.zero_add, hx.cell j, List.getElem?_toArray]; exact hj) (oneA a) (by simp only [maxLen]; omega) (by omega) hB
  refine ⟨v', w', hr, ⟨by rw [List.length_append]; simp; omega, ?_⟩, below_grown hg hB (fun k hk => (h.2.lt k hk).1)⟩
  rw [List.length_append, fl_append, fl_one]
  exact ho

theorem Rd.far {w w' : World} {rb B : Nat} {l : List Int} {e : Int} (h : Rd RB w rb l e) (k : Below B w w') (hb : rb < B) : Rd RB w' rb l e := by
  obtain ⟨h0, h1, ⟨v, h2, h3⟩, h4, h5, h6⟩ := h
  exact ⟨Nat.lt_of_lt_of_le h0 k.size, (below_cell k (p := ⟨rb, 0, none⟩) hb).trans h1, ⟨v, (below_cell k (p := ⟨rb, 1, none⟩) hb).trans h2, h3.keep (S := fun b => B ≤ b) ⟨k.os, k.tape, k.output, k.size, fun i hi hn => k.block i (by omega)⟩ (fun b _ hbb hb2 => by have h' : B ≤ b := hb2; omega)⟩, (below_cell k (p := ⟨rb, 2, none⟩) hb).trans h4, (below_frozen k (p := ⟨rb, 1, none⟩) hb).trans h5, (below_frozen k (p := ⟨rb, 2, none⟩) hb).trans h6⟩
theorem Kp.far {S : Nat → Prop} {a w w' : World} (h : Kp S a w) (k : Below a.heap.size w w') : Kp S a w' :=
  ⟨k.os.trans h.os, k.tape.trans h.tape, k.output.trans h.output, Nat.le_trans h.size k.size, fun i hi hn => (k.block i hi).trans (h.block i hi hn)⟩
theorem takeN_err (n : Nat) (l : List Int) {e : Int} (h : e ≠ 0) : takeN n l e = ([], l, e) := by
  cases n with
  | zero => rfl
  | succ n => unfold takeN; rw [if_pos h]
theorem takeN_succ (n : Nat) (l : List Int) : takeN (n + 1) l 0 = ((takeA l 0).1 :: (takeN n (takeA l 0).2.1 (takeA l 0).2.2).1, (takeN n (takeA l 0).2.1 (takeA l 0).2.2).2) := by
  show (if (0 : Int) ≠ 0 then _ else _) = _
  rw [if_neg (by simp)]

/-- What list tells. -/
def listL (l : List Int) (e : Int) : List AttrD × List Int × Int :=
  let c := uStep 9007199254740991 l e
  if c.2.2 ≠ 0 then ([], c.2) else if 8 < c.1 then ([], [], 4) else
    let r := takeN c.1.toNat c.2.1 0
    if r.2.2 ≠ 0 then ([], r.2) else r
theorem takeAs_list (l : List Int) (e : Int) : takeAs l e = if (listL l e).2.2 ≠ 0 then listL l e else if okAs (listL l e).1 then listL l e else ([], [], 4) := by
  obtain ⟨c, l1, e1, h1⟩ : ∃ c l1 e1, uStep 9007199254740991 l e = (c, l1, e1) := ⟨_, _, _, rfl⟩
  unfold takeAs listL
  rw [h1]
  simp only
  by_cases k1 : e1 ≠ 0
  · rw [if_pos k1, if_pos k1, if_pos k1]
  · rw [if_neg k1, if_neg k1]
    by_cases k2 : 8 < c
    · rw [if_pos k2, if_pos k2, if_pos (by decide)]
    · rw [if_neg k2, if_neg k2]
      obtain ⟨xs, l2, e2, h2⟩ : ∃ v l' e', takeN c.toNat l1 0 = (v, l', e') := ⟨_, _, _, rfl⟩
      rw [h2]
      unfold takeQs
      simp only
      by_cases k3 : e2 ≠ 0
      · rw [if_pos k3, if_pos k3, if_pos k3]
      · rw [if_neg k3, if_neg k3, if_neg k3]
theorem listL_bad {l : List Int} {e : Int} (h : (listL l e).2.2 ≠ 0) : (listL l e).1 = [] := by
  unfold listL at h ⊢
  simp only at h ⊢
  by_cases k1 : (uStep 9007199254740991 l e).2.2 ≠ 0
  · rw [if_pos k1]
  · rw [if_neg k1] at h ⊢
    by_cases k2 : 8 < (uStep 9007199254740991 l e).1
    · rw [if_pos k2]
    · rw [if_neg k2] at h ⊢
      by_cases k3 : (takeN (uStep 9007199254740991 l e).1.toNat (uStep 9007199254740991 l e).2.1 0).2.2 ≠ 0
      · rw [if_pos k3]
      · rw [if_neg k3] at h
        exact absurd h k3

/-- How a list's taking ends. -/
def TakL (RB : Nat) (w : World) (rb : Nat) (r : List AttrD × List Int × Int) (e : Ending) (w' : World) : Prop :=
  ∃ v, e = .returned v ∧ OwA w.heap.size w' v r.1 ∧ Rd RB w' rb r.2.1 r.2.2 ∧ Kp (fun b => b = rb) w w'

set_option maxRecDepth 100000 in
set_option maxHeartbeats 8000000 in
theorem list_is {w : World} {rb bb : Nat} {l : List Int} {e0 : Int} (h : Rd RB w rb l e0) (hle : RB ≤ rb) (hl : Byt l) (hbb : w.cell? ⟨bb, 0, none⟩ = some (.pointer (some ⟨rb, 0, none⟩))) (hne : bb ≠ rb) :
    Calls Try.prog 68 #[.pointer (some ⟨rb, 0, none⟩), .int .i64 8, .func (.func 69) #[] #[.pointer (some ⟨bb, 0, none⟩)]] w fun e w' => TakL RB w rb (listL l e0) e w' := by
  obtain ⟨r, hr⟩ : ∃ r, listL l e0 = r := ⟨_, rfl⟩
  obtain ⟨c, l1, e1, h1⟩ : ∃ c l1 e1, uStep 9007199254740991 l e0 = (c, l1, e1) := ⟨_, _, _, rfl⟩
  rw [hr]
  unfold listL at hr
  rw [h1] at hr
  simp only at hr
  have hb1 := u_byt hl h1
  have hrg := u_rng (by decide) hl h1
  have HZ : Hid (e1 ≠ 0 → c = 0) := hd (err_zero h1)
  have HR := hd hr; have H := hd h; have H1 := hd h1; have HLE := hd hle; have HB1 := hd hb1; have HRG := hd hrg
  have HRB := hd h.lt
  have HBL := hd (World.block_lt_of_cell? w _ hbb)
  have HBB := hd hbb; have HNE := hd hne
  clear hr h h1 hle hl hb1 hrg hbb hne
  go_enter Try.func68, Try.ntmps68
  go_wp2_with fail
  refine (RU_is H.out c H1.out).mono ?_
  rintro e w2 ⟨rfl, hr2, hk2⟩
  have R2 := hd hr2
  have K2 := hd hk2
  clear hr2 hk2 H
  by_cases h8 : 8 < c
  · have hn : ¬ c = 0 := by omega
    by_cases he1 : e1 = 0
    · have HR2 : Hid (r = ([], [], 4)) := hd (by rw [← HR.out, if_neg (by simpa using he1), if_pos h8])
      rw [he1] at R2
      go_wp2_with fail
      refine (Fail_new R2.out (by decide)).mono ?_
      rintro e w3 ⟨rfl, rfl⟩
      have R3 := hd (R2.out.fail 4)
      have K3 := hd (K2.out.trans (kp_fail w2 rb (.int .i64 4) (.slice none 0 0)))
      clear R2 K2
      generalize (w2.setCell ⟨rb, 2, none⟩ (.int .i64 4)).setCell ⟨rb, 1, none⟩ (.slice none 0 0) = w3 at *
      have h0c : 0 < c := by omega
      go_wp2_with fail
      refine wp_loop_rounds 1 ?_
      rw [rounds_succ]
      go_wp2_with (go_at_call 29; refine (Err_any R3.out).mono ?_; rintro e w4 ⟨rfl, rfl⟩)
      go_ret
      refine ⟨_, rfl, ?_, ?_, K3.out⟩
      · rw [HR2.out]; exact OwA.nil _ _
      · rw [HR2.out]; exact R3.out
    · exact absurd (HZ.out he1) hn
  have h8' : ¬ 8 < c := h8
  have HR2 : Hid (r = (if e1 ≠ 0 then ([], l1, e1) else if (takeN c.toNat l1 0).2.2 ≠ 0 then ([], (takeN c.toNat l1 0).2) else takeN c.toNat l1 0)) := hd (by rw [← HR.out, if_neg h8])
  have HT : Hid (r = (if (takeN c.toNat l1 e1).2.2 ≠ 0 then ([], (takeN c.toNat l1 e1).2) else takeN c.toNat l1 e1)) := hd (by
    rw [HR2.out]
    by_cases he1 : e1 ≠ 0
    · rw [if_pos he1, takeN_err _ _ he1, if_pos he1]
    · rw [if_neg he1]
      have : e1 = 0 := by simpa using he1
      rw [this])
  clear HR HR2 h8 HZ
  obtain ⟨n, hn⟩ : ∃ n : Nat, c = (n : Int) := ⟨c.toNat, by have := HRG.out; omega⟩
  subst hn
  rw [Int.toNat_natCast] at HT
  have hn8 : n ≤ 8 := by omega
  have HN8 := hd hn8
  have h8i : ¬ (8 : Int) < (n : Int) := by omega
  clear h8' hn8
  go_wp2_with fail
  go_loopw [8] (fun o wr => ∃ (ys : List AttrD) (lk : List Int) (ek : Int), OwA w.heap.size wr o ys ∧ ys.length ≤ n ∧ Byt lk ∧ Rd RB wr rb lk ek ∧ Kp (fun b => b = rb) w wr ∧ takeN n l1 e1 = (ys ++ (takeN (n - ys.length) lk ek).1, (takeN (n - ys.length) lk ek).2)) (fun o _ => n - (match o with | .slice _ k _ => k | _ => 0))
  case atStart => exact ⟨[], l1, e1, OwA.nil _ _, Nat.zero_le _, HB1.out, R2.out, K2.out, rfl⟩
  case round =>
    obtain ⟨ys, lk, ek, ho, hy, hbk, hrk, hkk, ht⟩ := hrel
    obtain ⟨x0, cap, hv⟩ := ho.form
    subst hv
    have HO := hd ho; have HY := hd hy; have HBK := hd hbk; have HRK := hd hrk; have HKK := hd hkk; have HTK := hd ht
    clear ho hbk hrk hkk ht R2 K2
    obtain ⟨k, hk⟩ : ∃ k, ys.length = k := ⟨_, rfl⟩
    rw [hk] at hy ⊢
    have HK := hd hk
    clear hk
    by_cases hlt : k < n
    · have hlz : (k : Int) < (n : Int) := by omega
      by_cases hek : ek = 0
      · subst hek
        go_wp2_with fail
        refine (Err_any HRK.out).mono ?_
        rintro e w4 ⟨rfl, rfl⟩
        go_wp2_with fail
        refine (TakeA_is HRK.out HLE.out HBK.out ((HKK.out.cell (p := ⟨bb, 0, none⟩) HBL.out HNE.out).trans HBB.out) HNE.out).mono ?_
        obtain ⟨⟨s, x, p, kk, m, b⟩, l3, e3, h3⟩ : ∃ a l' e', takeA lk 0 = (a, l', e') := ⟨_, _, _, rfl⟩
        rw [h3]
        rintro e w5 ⟨rfl, hr5, hk5⟩
        have HRB' := HRB.out
        have O5 := hd (HO.out.kp hk5 HRB.out)
        have R5 := hd hr5
        have K5 := hd (HKK.out.trans hk5)
        have HB3 := hd (takeA_byt HBK.out h3)
        have HT2 : Hid (takeN n l1 e1 = ((ys ++ [(s, x, p, kk, m, b)]) ++ (takeN (n - (k + 1)) l3 e3).1, (takeN (n - (k + 1)) l3 e3).2)) := hd (by
          have h4 := HTK.out
          rw [HK.out, show n - k = (n - (k + 1)) + 1 by omega, takeN_succ, h3] at h4
          rw [h4, List.append_assoc]
          rfl)
        clear hr5 hk5 h3 HO HRK HKK HTK
        have NB := below1 w5 (Obj.cells #[Value.string s, Value.int IntKind.i64 x, Value.int IntKind.u32 p, Value.int IntKind.i64 kk, Value.int IntKind.i64 m, Value.string b] 44)
        have V6 := Bk.new w5 44 #[Value.string s, Value.int IntKind.i64 x, Value.int IntKind.u32 p, Value.int IntKind.i64 kk, Value.int IntKind.i64 m, Value.string b]
        have O6 := O5.out.keep NB
        have R6 := R5.out.keep NB
        have K6 := K5.out.trans (kpB NB (fun b => b = rb))
        obtain ⟨v7, w7, hr7, o7, k7⟩ := O6.app (a := (s, x, p, kk, m, b)) V6 K6.size (by have := HK.out; have := HN8.out; omega) 34
        obtain ⟨x7, cap7, hv7⟩ := o7.form
        subst hv7
        rw [List.length_append, HK.out] at hr7
        have HR7 := hd hr7
        have O7 := hd o7
        have R7 := hd (R6.far k7 HRB.out)
        have K7 := hd (K6.far k7)
        rw [List.length_append, HK.out] at O7
        clear NB V6 O6 R6 K6 hr7 o7 k7 O5 R5 K5 HRB'
        go_wp2_with (at_builtin; refine wpList_append_run _ rfl _ _ _ _ rfl _ _ rfl rfl _ w7 HR7.out ?_)
        go_roundw
        case rel => exact ⟨ys ++ [(s, x, p, kk, m, b)], l3, e3, O7.out, by rw [List.length_append, HK.out]; show k + 1 ≤ n; omega, HB3.out, R7.out, K7.out, by rw [List.length_append, HK.out]; exact HT2.out⟩
        case measure => simp; omega
      · have hne : (ek == 0) = false := by rw [beq_eq_false_iff_ne]; exact hek
        have hne2 : (ek != 0) = true := by rw [bne_iff_ne]; exact hek
        have HEK := hd hek
        go_wp2_with fail
        refine (Err_any HRK.out).mono ?_
        rintro e w4 ⟨rfl, rfl⟩
        go_wp2_with fail
        refine (Err_any HRK.out).mono ?_
        rintro e w5 ⟨rfl, rfl⟩
        go_wp2_with fail
        go_ret
        have ht := HT.out
        rw [HTK.out, takeN_err _ _ HEK.out, if_pos HEK.out] at ht
        refine ⟨_, rfl, ?_, ?_, HKK.out⟩
        · rw [ht]; exact OwA.nil _ _
        · rw [ht]; exact HRK.out
    · have hnl : ¬ (k : Int) < (n : Int) := by omega
      have hkn : k = n := by omega
      have hz : takeN (n - ys.length) lk ek = ([], lk, ek) := by rw [HK.out, hkn, Nat.sub_self]; rfl
      have ht := HT.out
      rw [HTK.out, hz, List.append_nil] at ht
      have HT3 := hd ht
      clear hz ht hkn
      by_cases hek : ek = 0
      · have hne2 : (ek != 0) = false := by rw [hek]; rfl
        have HEK := hd hek
        go_wp2_with fail
        refine (Err_any HRK.out).mono ?_
        rintro e w5 ⟨rfl, rfl⟩
        go_wp2_with fail
        go_ret
        have ht := HT3.out
        rw [if_neg (by rw [HEK.out]; simp)] at ht
        refine ⟨_, rfl, ?_, ?_, HKK.out⟩
        · rw [ht]
          have := HO.out
          rw [HK.out] at this
          exact this
        · rw [ht]; exact HRK.out
      · have hne2 : (ek != 0) = true := by rw [bne_iff_ne]; exact hek
        have HEK := hd hek
        go_wp2_with fail
        refine (Err_any HRK.out).mono ?_
        rintro e w5 ⟨rfl, rfl⟩
        go_wp2_with fail
        go_ret
        have ht := HT3.out
        rw [if_pos HEK.out] at ht
        refine ⟨_, rfl, ?_, ?_, HKK.out⟩
        · rw [ht]; exact OwA.nil _ _
        · rw [ht]; exact HRK.out

set_option maxRecDepth 100000 in
set_option maxHeartbeats 4000000 in
theorem TakeL_is {w : World} {rb : Nat} {l : List Int} {e0 : Int} (h : Rd RB w rb l e0) (hle : RB ≤ rb) (hl : Byt l) :
    Calls Try.prog 58 #[.pointer (some ⟨rb, 0, none⟩)] w fun e w' => TakL RB w rb (takeAs l e0) e w' := by
  obtain ⟨r, hr⟩ : ∃ r, takeAs l e0 = r := ⟨_, rfl⟩
  obtain ⟨xs, l1, e1, h1⟩ : ∃ xs l1 e1, listL l e0 = (xs, l1, e1) := ⟨_, _, _, rfl⟩
  rw [hr]
  have hb := listL_bad (l := l) (e := e0)
  rw [takeAs_list, h1] at hr
  rw [h1] at hb
  simp only at hr hb
  have HR := hd hr; have H := hd h; have H1 := hd h1; have HLE := hd hle; have HL := hd hl; have HBD := hd hb
  clear hr h h1 hle hl hb
  go_enter Try.func58, Try.ntmps58
  go_wp2_with fail
  have NB := below1 w (Obj.cells #[Value.pointer (some ⟨rb, 0, none⟩)] 69)
  have R0 := hd (H.out.keep NB)
  have K0 := hd (kpB NB (fun b => b = rb))
  have BB := Bk.new w 69 #[Value.pointer (some ⟨rb, 0, none⟩)]
  have HG := hd H.out.lt
  have HSZ := hd NB.size
  generalize hgb : w.heap.size = gb at *
  have HGB := hd hgb
  clear hgb
  generalize w.alloc (Obj.cells #[Value.pointer (some ⟨rb, 0, none⟩)] 69) = w1 at *
  have HBB := hd (BB.cell 0)
  simp at HBB
  refine (list_is R0.out HLE.out HL.out HBB.out (by have := HG.out; omega)).mono ?_
  rw [H1.out]
  rintro e w2 ⟨v, rfl, ho, hr2, hk2⟩
  obtain ⟨x0, cap, hv⟩ := ho.form
  subst hv
  have O2 := hd ho
  have R2 := hd hr2
  have K2 := hd (K0.out.trans hk2)
  have B2 := hd (hk2.bk BB (by have := HG.out; omega))
  clear ho hr2 hk2 BB NB K0 R0 HBB H1 H
  generalize xs.length = n at *
  go_wp2_with fail
  refine (listMay_any O2.out.el).mono ?_
  rintro e w3 ⟨rfl, hk3⟩
  have O3 := hd ((O2.out.keep hk3).lower (B' := w.heap.size) (by rw [HGB.out]; exact HSZ.out))
  have R3 := hd (R2.out.keep hk3)
  have K3 := hd (K2.out.trans (kpB hk3 (fun b => b = rb)))
  have B3 := hd (B2.out.keep hk3)
  clear hk3 O2 R2 K2 B2
  have b0 := B3.out.cell 0
  simp at b0
  by_cases he : e1 = 0
  · cases hok : okAs xs
    · have HR2 : Hid (r = ([], [], 4)) := hd (by rw [← HR.out, if_neg (by simpa using he), if_neg (by rw [hok]; simp)])
      rw [he] at R3
      clear hok HR he
      go_wp2_with fail
      refine (Fail_new R3.out (by decide)).mono ?_
      rintro e w4 ⟨rfl, rfl⟩
      have R4 := hd (R3.out.fail 4)
      have K4 := hd (K3.out.trans (kp_fail w3 rb (.int .i64 4) (.slice none 0 0)))
      clear R3 K3 O3 B3 b0
      go_wp2_with fail
      go_ret
      refine ⟨_, rfl, ?_, ?_, K4.out⟩
      · rw [HR2.out]; exact OwA.nil _ _
      · rw [HR2.out]; exact R4.out
    · have HR2 : Hid (r = (xs, l1, e1)) := hd (by rw [← HR.out, if_neg (by simpa using he), if_pos hok])
      clear hok HR he b0
      go_wp2_with fail
      go_ret
      refine ⟨_, rfl, ?_, ?_, K3.out⟩
      · rw [HR2.out]; exact O3.out
      · rw [HR2.out]; exact R3.out
  · have HR2 : Hid (r = (xs, l1, e1)) := hd (by rw [← HR.out, if_pos he])
    have hok : okAs xs = true := by rw [HBD.out he]; rfl
    rw [hok]
    clear hok HR he b0
    go_wp2_with fail
    go_ret
    refine ⟨_, rfl, ?_, ?_, K3.out⟩
    · rw [HR2.out]; exact O3.out
    · rw [HR2.out]; exact R3.out

end Go.Proofs.Yteifaipbckhoiab
