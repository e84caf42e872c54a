/- Bytes of attributes and of lists of them, both sides. -/
import Derived.Test.YteifaipbckhoiabLi
import Derived.Test.YteifaipbckhoiabWb8
import Derived.Test.YteifaipbckhoiabCat
namespace Go.Proofs.Yteifaipbckhoiab
open Go.RowKit
set_option linter.unusedVariables false

theorem attrB_parts (a : AttrD) : attrB a = (Num.enc a.1.size ++ bytesOf a.1) ++ (Num.enc a.2.1 ++ Num.enc a.2.2.1) ++ (Num.enc a.2.2.2.1 ++ contB a.2.2.2) := by
  unfold attrB
  rw [valB_cont]
  simp only [List.append_assoc]
theorem attrB_le {a : AttrD} (h : okA a = true) (hw : WfA a) : 0 < (attrB a).length ∧ (attrB a).length ≤ 200 := by
  have h1 := okA_parts h
  have h2 := okL_true h1.2.1
  have h3 := contB_len h1.2.2
  have e := attrB_len a
  have s1 := Num.sz_bd a.1.size (by omega)
  have s2 := Num.sz_bd a.2.1 h2.1
  have s3 := Num.sz_bd a.2.2.1 hw.1
  rw [valB_cont, List.length_append] at e
  omega
theorem asB_le : ∀ {xs : List AttrD}, (∀ a ∈ xs, okA a = true ∧ WfA a) → (asB xs).length ≤ 200 * xs.length
  | [], _ => by simp [asB]
  | a :: t, h => by
    have h1 := attrB_le (h a (List.mem_cons_self ..)).1 (h a (List.mem_cons_self ..)).2
    have h2 := asB_le (xs := t) (fun b hb => h b (List.mem_cons_of_mem _ hb))
    show (attrB a ++ asB t).length ≤ 200 * (t.length + 1)
    rw [List.length_append]
    omega
theorem asB_app : ∀ (xs ys : List AttrD), asB (xs ++ ys) = asB xs ++ asB ys
  | [], ys => rfl
  | a :: t, ys => by
    show attrB a ++ asB (t ++ ys) = (attrB a ++ asB t) ++ asB ys
    rw [asB_app t ys, List.append_assoc]
theorem asB_take {xs : List AttrD} {k : Nat} (h : k < xs.length) : asB (xs.take (k + 1)) = asB (xs.take k) ++ attrB (xs[k]'h) := by
  rw [List.take_succ_eq_append_getElem h, asB_app]
  show asB (xs.take k) ++ (attrB xs[k] ++ []) = _
  rw [List.append_nil]

/-- A row of its own, handed back alone. -/
def RowO (w : World) (l : List Int) (e : Ending) (w' : World) : Prop :=
  ∃ a cap, e = .returned (.slice a l.length cap) ∧ Ow w.heap.size w' (.slice a l.length cap) l ∧ Below w.heap.size w w'

theorem RowNew.rowO {w : World} {n : Nat} {l : List Int} {e : Ending} {w' w0 : World} (h : RowNew w n l e w') (hb : Below w0.heap.size w0 w) : RowO w0 l e w' := by
  obtain ⟨a, cap, rfl, ho, hk⟩ := h
  have hl := ho.len
  obtain ⟨a', cap', he⟩ := hl
  injection he with e1 e2 e3
  subst e1 e2 e3
  exact ⟨a, cap, rfl, ho.lower hb.size, below_below hb hk⟩
theorem Ow.bx {B : Nat} {w : World} {v : Value} {l : List Int} (h : Ow B w v l) : Bx w.heap.size w v l := h.all
theorem Bs.bx {N : Nat} {w : World} {v : Value} {l : List Int} (h : Bs (fun b => N ≤ b) w v l) : Bx w.heap.size w v l := Or.inl (h.weaken (A' := fun b => b < w.heap.size) (fun b hb _ => hb))
theorem Bx.upN {N M : Nat} {w : World} {v : Value} {l : List Int} (h : Bx N w v l) (hn : N ≤ M) : Bx M w v l := by
  rcases h with h | h
  · exact Or.inl (h.weaken (fun b _ hb => Nat.lt_of_lt_of_le hb hn))
  · exact Or.inr h
theorem Bx.go {w w' : World} {v : Value} {l : List Int} (h : Bx w.heap.size w v l) (k : Below w.heap.size w w') : Bx w'.heap.size w' v l := (h.keep k).upN k.size

set_option maxRecDepth 100000 in
set_option maxHeartbeats 4000000 in
theorem attr_cells (s : ByteArray) (x p k m : Int) (b : ByteArray) (w : World) (L1 L2 L3 : List Int) (y1 : Byt L1) (y2 : Byt L2) (y3 : Byt L3) (hn : 0 < L1.length + L2.length + L3.length) (hb : L1.length + L2.length + L3.length ≤ 1000)
    (h1 : ∀ w, Calls Try.prog 36 #[.string s] w fun e w' => MadeEnd w L1 e w') (h2 : ∀ w, Calls Try.prog 63 #[.agg #[.int .i64 x, .int .u32 p]] w fun e w' => OwEnd w L2 e w')
    (h3 : ∀ w, Calls Try.prog 64 #[.agg #[.int .i64 k, .int .i64 m, .string b]] w fun e w' => OwEnd w L3 e w') :
    Calls Try.prog 51 #[.agg #[.string s, .int .i64 x, .int .u32 p, .int .i64 k, .int .i64 m, .string b]] w fun e w' => RowO w (L1 ++ L2 ++ L3) e w' := by
  obtain ⟨n1, e1⟩ : ∃ n, L1.length = n := ⟨_, rfl⟩
  obtain ⟨n2, e2⟩ : ∃ n, L2.length = n := ⟨_, rfl⟩
  obtain ⟨n3, e3⟩ : ∃ n, L3.length = n := ⟨_, rfl⟩
  have H1 := hd h1; have H2 := hd h2; have H3 := hd h3
  have Y1 := hd y1; have Y2 := hd y2; have Y3 := hd y3
  have E1 := hd e1; have E2 := hd e2; have E3 := hd e3
  have HN := hd hn; have HBG := hd hb
  clear h1 h2 h3 y1 y2 y3 hn hb
  go_enter Try.func51, Try.ntmps51
  go_wp2_with fail
  have A1 := Bk.new w 44 #[Value.string s, Value.int IntKind.i64 x, Value.int IntKind.u32 p, Value.int IntKind.i64 k, Value.int IntKind.i64 m, Value.string b]
  have B1 := below1 w (Obj.cells #[Value.string s, Value.int IntKind.i64 x, Value.int IntKind.u32 p, Value.int IntKind.i64 k, Value.int IntKind.i64 m, Value.string b] 44)
  generalize w.alloc (Obj.cells #[Value.string s, Value.int IntKind.i64 x, Value.int IntKind.u32 p, Value.int IntKind.i64 k, Value.int IntKind.i64 m, Value.string b] 44) = w1 at *
  refine (H1.out w1).mono ?_
  rintro e w2 ⟨a1, cap1, rfl, hs, hk⟩
  rw [e1] at hs ⊢
  have B2 := hd (B1.trans (hk.mono B1.size))
  have X2 := hd hs.bx
  have A2 := hd (A1.keep hk)
  clear A1 B1 hs hk
  have c1 := A2.out.cell 1
  have c2 := A2.out.cell 2
  simp at c1 c2
  go_wp2_with fail
  refine (H2.out w2).mono ?_
  rintro e w3 ⟨a2, cap2, rfl, hs, hk⟩
  rw [e2] at hs ⊢
  have B3 := hd (B2.out.trans (hk.mono B2.out.size))
  have X3 := hd (X2.out.go hk)
  have X3b := hd hs.bx
  have A3 := hd (A2.out.keep hk)
  clear A2 B2 X2 hs hk c1 c2
  have c3 := A3.out.cell 3
  have c4 := A3.out.cell 4
  have c5 := A3.out.cell 5
  simp at c3 c4 c5
  go_wp2_with fail
  refine (H3.out w3).mono ?_
  rintro e w4 ⟨a3, cap3, rfl, hs, hk⟩
  rw [e3] at hs ⊢
  have B4 := hd (B3.out.trans (hk.mono B3.out.size))
  have X4 := hd (X3.out.go hk)
  have X4b := hd (X3b.out.go hk)
  have X4c := hd hs.bx
  clear A3 B3 X3 X3b hs hk c3 c4 c5
  clear e1 e2 e3
  go_wp2_with fail
  have NB := below1 w4 (Obj.cells #[Value.slice a1 n1 cap1, Value.slice a2 n2 cap2, Value.slice a3 n3 cap3] 27)
  have A5 := Bk.new w4 27 #[Value.slice a1 n1 cap1, Value.slice a2 n2 cap2, Value.slice a3 n3 cap3]
  generalize w4.alloc (Obj.cells #[Value.slice a1 n1 cap1, Value.slice a2 n2 cap2, Value.slice a3 n3 cap3] 27) = w5 at *
  have d0 := A5.cell 0
  have d1 := A5.cell 1
  have d2 := A5.cell 2
  simp at d0 d1 d2
  have B5 := hd (B4.out.trans (NB.mono B4.out.size))
  refine (concat3 d0 d1 d2 (X4.out.go NB) (X4b.out.go NB) (X4c.out.go NB) Y1.out Y2.out Y3.out E1.out E2.out E3.out (n := n1 + n2 + n3) rfl (by have := HN.out; have := E1.out; have := E2.out; have := E3.out; omega) (by have := HBG.out; have := E1.out; have := E2.out; have := E3.out; omega) A5.lt).mono ?_
  intro e w6 hr
  have HR := hd (hr.rowO (w0 := w) B5.out)
  clear hr d0 d1 d2 A5 NB
  obtain ⟨a6, cap6, he6, ho6, hk6⟩ := HR.out
  subst he6
  have HO6 := hd ho6
  have HK6 := hd hk6
  have HL6 : Hid ((L1 ++ L2 ++ L3).length = n1 + n2 + n3) := hd (by simp only [List.length_append, E1.out, E2.out, E3.out])
  rw [HL6.out] at HO6 ⊢
  clear ho6 hk6 HR
  go_wp2_with fail
  go_ret
  refine ⟨a6, cap6, ?_, ?_, HK6.out⟩
  · rw [HL6.out]; rfl
  · rw [HL6.out]; exact HO6.out

theorem attr_any (a : AttrD) (w : World) (h : okA a = true) (hw : WfA a) : Calls Try.prog 51 #[A6 a] w fun e w' => RowO w (attrB a) e w' := by
  have hp := okA_parts h
  have hl := attrB_le h hw
  have ho := okL_true hp.2.1
  have h8 := contB_len hp.2.2
  have hkd := okV_kind hp.2.2
  rw [attrB_parts] at hl ⊢
  simp only [List.length_append] at hl
  obtain ⟨s, x, p, k, m, b⟩ := a
  simp only at hp hl ho h8 hkd ⊢
  refine attr_cells s x p k m b w _ _ _ ((enc_byt _ (by omega) (by omega)).append (bytesOf_byt _)) ((enc_byt _ ho.1 (by omega)).append (enc_byt _ hw.1 (by have := hw.2; simp only at this ⊢; omega))) ?_ (by simp only [List.length_append]; omega) (by simp only [List.length_append]; omega) (fun w => Text_ok s w (by omega)) (fun w => bytes_ok x p w hp.2.1 hw) (fun w => vbytes_ok k m b w hp.2.2)
  refine (enc_byt _ (by omega) (by omega)).append ?_
  rcases okV_cases hp.2.2 with ⟨n, he, g0, g1⟩ | ⟨t, he, g0⟩ | he | he
  · rw [he, contB1]
    have := foldI_bd n g0 g1
    exact enc_byt _ this.1 (by omega)
  · rw [he, contB2]
    exact (enc_byt _ (by omega) (by omega)).append (bytesOf_byt _)
  · rw [he, contB3]
    exact enc_byt _ (by decide) (by decide)
  · rw [he, contB3]
    exact enc_byt _ (by decide) (by decide)

end Go.Proofs.Yteifaipbckhoiab
