/- Bytes of values, both sides. -/
import Derived.Test.YteifaipbckhoiabMv
import Derived.Test.YteifaipbckhoiabMh
import Derived.Test.YteifaipbckhoiabMf
namespace Go.Proofs.Yteifaipbckhoiab
open Go.RowKit
set_option linter.unusedVariables false

/-- A row of bytes is handed back. -/
def RowR (w : World) (l : List Int) (e : Ending) (w' : World) : Prop :=
  ∃ a cap, e = .returned (.slice a l.length cap) ∧ Bs (fun b => w.heap.size ≤ b) w' (.slice a l.length cap) l ∧ Below w.heap.size w w'

/-- What stands behind the Kind. -/
def contB (v : ValD) : List Int := if v.1 = 2 then Num.enc v.2.2.size ++ bytesOf v.2.2 else if v.1 = 1 then Num.enc (foldI v.2.1) else Num.enc v.2.1
theorem valB_cont (v : ValD) : valB v = Num.enc v.1 ++ contB v := rfl
theorem contB1 (n : Int) (s : ByteArray) : contB (1, n, s) = Num.enc (foldI n) := by unfold contB; simp
theorem contB2 (n : Int) (s : ByteArray) : contB (2, n, s) = Num.enc s.size ++ bytesOf s := by unfold contB; simp
theorem contB3 (n : Int) (s : ByteArray) : contB (3, n, s) = Num.enc n := by unfold contB; simp
theorem rowR_of {w w1 : World} {l : List Int} {a : Option Addr} {cap : Nat} (h : Bs (fun b => w.heap.size ≤ b) w1 (.slice a l.length cap) l) (k : Below w.heap.size w w1) : RowR w l (.returned (.slice a l.length cap)) w1 := ⟨a, cap, rfl, h, k⟩
theorem contB_len {v : ValD} (h : okV v = true) : (Num.enc v.1).length ≤ 8 ∧ (contB v).length ≤ 80 := by
  rcases okV_cases h with ⟨n, rfl, h0, h1⟩ | ⟨s, rfl, h0⟩ | rfl | rfl
  · rw [contB1]
    have := foldI_bd n h0 h1
    have h2 := Num.sz_bd (foldI n) this.1
    refine ⟨by show (Num.enc 1).length ≤ 8; decide, ?_⟩
    rw [Num.enc_length]
    omega
  · rw [contB2]
    have h2 := Num.sz_bd s.size (by omega)
    refine ⟨by show (Num.enc 2).length ≤ 8; decide, ?_⟩
    rw [List.length_append, Num.enc_length, bytesOf_length]
    omega
  · exact ⟨by decide, by decide⟩
  · exact ⟨by decide, by decide⟩
theorem okV_kind {v : ValD} (h : okV v = true) : 1 ≤ v.1 ∧ v.1 ≤ 3 := by
  rcases okV_cases h with ⟨n, rfl, h0, h1⟩ | ⟨s, rfl, h0⟩ | rfl | rfl <;> simp

set_option maxRecDepth 100000 in
set_option maxHeartbeats 1000000 in
theorem cont1 (n : Int) (h0 : -9007199254740991 ≤ n) (h1 : n ≤ 9007199254740991) (w : World) : Calls Try.prog 77 #[.agg #[.int .i64 1, .int .i64 n, .string ⟨#[]⟩]] w fun e w' => RowR w (contB (1, n, ⟨#[]⟩)) e w' := by
  obtain ⟨L, hL⟩ : ∃ L, contB (1, n, ⟨#[]⟩) = L := ⟨_, rfl⟩
  rw [hL]
  have HC : Hid (∀ w, Calls Try.prog 83 #[.int .i64 n] w fun e w' => MadeEnd w L e w') := hd (fun w => by rw [← hL, contB1]; exact (fun w => S_made n w h0 h1) w)
  clear hL
  go_enter Try.func77, Try.ntmps77
  go_wp2_with fail
  have B1 := below1 w (Obj.cells #[Value.int IntKind.i64 1, Value.int IntKind.i64 n, Value.string ⟨#[]⟩] 42)
  have HS := hd B1.size
  refine (HC.out (w.alloc (Obj.cells #[Value.int IntKind.i64 1, Value.int IntKind.i64 n, Value.string ⟨#[]⟩] 42))).mono ?_
  rintro e w2 ⟨a, cap, rfl, hb, hk⟩
  have B2 := hd (below_below B1 hk)
  have H2 := hd (hb.weaken (A' := fun b => w.heap.size ≤ b) (fun b _ hb => Nat.le_trans HS.out hb))
  clear hb hk B1
  go_wp2_with fail
  go_ret
  exact rowR_of H2.out B2.out

set_option maxRecDepth 100000 in
set_option maxHeartbeats 1000000 in
theorem cont2 (s : ByteArray) (h0 : s.size ≤ 65535) (w : World) : Calls Try.prog 77 #[.agg #[.int .i64 2, .int .i64 0, .string s]] w fun e w' => RowR w (contB (2, 0, s)) e w' := by
  obtain ⟨L, hL⟩ : ∃ L, contB (2, 0, s) = L := ⟨_, rfl⟩
  rw [hL]
  have HC : Hid (∀ w, Calls Try.prog 36 #[.string s] w fun e w' => MadeEnd w L e w') := hd (fun w => by rw [← hL, contB2]; exact (fun w => Text_ok s w h0) w)
  clear hL
  go_enter Try.func77, Try.ntmps77
  go_wp2_with fail
  have B1 := below1 w (Obj.cells #[Value.int IntKind.i64 2, Value.int IntKind.i64 0, Value.string s] 42)
  have HS := hd B1.size
  refine (HC.out (w.alloc (Obj.cells #[Value.int IntKind.i64 2, Value.int IntKind.i64 0, Value.string s] 42))).mono ?_
  rintro e w2 ⟨a, cap, rfl, hb, hk⟩
  have B2 := hd (below_below B1 hk)
  have H2 := hd (hb.weaken (A' := fun b => w.heap.size ≤ b) (fun b _ hb => Nat.le_trans HS.out hb))
  clear hb hk B1
  go_wp2_with fail
  go_ret
  exact rowR_of H2.out B2.out

set_option maxRecDepth 100000 in
set_option maxHeartbeats 1000000 in
theorem cont30  (w : World) : Calls Try.prog 77 #[.agg #[.int .i64 3, .int .i64 0, .string ⟨#[]⟩]] w fun e w' => RowR w (contB (3, 0, ⟨#[]⟩)) e w' := by
  obtain ⟨L, hL⟩ : ∃ L, contB (3, 0, ⟨#[]⟩) = L := ⟨_, rfl⟩
  rw [hL]
  have HC : Hid (∀ w, Calls Try.prog 19 #[.int .i64 0] w fun e w' => MadeEnd w L e w') := hd (fun w => by rw [← hL, contB3]; exact (fun w => U_made 0 w (by decide) (by decide)) w)
  clear hL
  go_enter Try.func77, Try.ntmps77
  go_wp2_with fail
  have B1 := below1 w (Obj.cells #[Value.int IntKind.i64 3, Value.int IntKind.i64 0, Value.string ⟨#[]⟩] 42)
  have HS := hd B1.size
  refine (HC.out (w.alloc (Obj.cells #[Value.int IntKind.i64 3, Value.int IntKind.i64 0, Value.string ⟨#[]⟩] 42))).mono ?_
  rintro e w2 ⟨a, cap, rfl, hb, hk⟩
  have B2 := hd (below_below B1 hk)
  have H2 := hd (hb.weaken (A' := fun b => w.heap.size ≤ b) (fun b _ hb => Nat.le_trans HS.out hb))
  clear hb hk B1
  go_wp2_with fail
  go_ret
  exact rowR_of H2.out B2.out

set_option maxRecDepth 100000 in
set_option maxHeartbeats 1000000 in
theorem cont31  (w : World) : Calls Try.prog 77 #[.agg #[.int .i64 3, .int .i64 1, .string ⟨#[]⟩]] w fun e w' => RowR w (contB (3, 1, ⟨#[]⟩)) e w' := by
  obtain ⟨L, hL⟩ : ∃ L, contB (3, 1, ⟨#[]⟩) = L := ⟨_, rfl⟩
  rw [hL]
  have HC : Hid (∀ w, Calls Try.prog 19 #[.int .i64 1] w fun e w' => MadeEnd w L e w') := hd (fun w => by rw [← hL, contB3]; exact (fun w => U_made 1 w (by decide) (by decide)) w)
  clear hL
  go_enter Try.func77, Try.ntmps77
  go_wp2_with fail
  have B1 := below1 w (Obj.cells #[Value.int IntKind.i64 3, Value.int IntKind.i64 1, Value.string ⟨#[]⟩] 42)
  have HS := hd B1.size
  refine (HC.out (w.alloc (Obj.cells #[Value.int IntKind.i64 3, Value.int IntKind.i64 1, Value.string ⟨#[]⟩] 42))).mono ?_
  rintro e w2 ⟨a, cap, rfl, hb, hk⟩
  have B2 := hd (below_below B1 hk)
  have H2 := hd (hb.weaken (A' := fun b => w.heap.size ≤ b) (fun b _ hb => Nat.le_trans HS.out hb))
  clear hb hk B1
  go_wp2_with fail
  go_ret
  exact rowR_of H2.out B2.out

theorem content_any (v : ValD) (h : okV v = true) (w : World) : Calls Try.prog 77 #[V3 v] w fun e w' => RowR w (contB v) e w' := by
  rcases okV_cases h with ⟨n, rfl, h0, h1⟩ | ⟨s, rfl, h0⟩ | rfl | rfl
  · exact cont1 n h0 h1 w
  · exact cont2 s (by omega) w
  · exact cont30 w
  · exact cont31 w

set_option maxRecDepth 100000 in
set_option maxHeartbeats 1000000 in
theorem vbytes_bad (k n : Int) (s : ByteArray) (w : World) (h : okV (k, n, s) = false) : Calls Try.prog 64 #[.agg #[.int .i64 k, .int .i64 n, .string s]] w fun e w' => VEnd w (.tuple #[.slice none 0 0, .int .i64 80]) e w' := by
  have HO := hd h
  clear h
  go_enter Try.func64, Try.ntmps64
  go_wp2_with fail
  have B1 := below1 w (Obj.cells #[Value.int IntKind.i64 k, Value.int IntKind.i64 n, Value.string s] 42)
  refine (checkV_any k n s _).mono ?_
  rintro e w2 ⟨rfl, hk⟩
  rw [HO.out]
  simp only [Bool.false_eq_true, if_false]
  have B2 := hd (below_below B1 hk)
  clear hk B1
  go_wp2_with fail
  go_ret2
  exact VEnd.mk B2.out
set_option maxRecDepth 100000 in
set_option maxHeartbeats 2000000 in
theorem vbytes_ok (k n : Int) (s : ByteArray) (w : World) (h : okV (k, n, s) = true) : Calls Try.prog 64 #[.agg #[.int .i64 k, .int .i64 n, .string s]] w fun e w' => OwEnd w (Num.enc k ++ contB (k, n, s)) e w' := by
  have HO := hd h
  have hk3 := okV_kind h
  simp only at hk3
  have HL := hd (contB_len h)
  clear h
  have HC := hd fun w => content_any (k, n, s) HO.out w
  unfold V3 at HC
  simp only at HC
  have HU := hd fun w => U_ow k w (by omega) (by omega)
  clear hk3
  go_enter Try.func64, Try.ntmps64
  go_wp2_with fail
  have A1 := Bk.new w 42 #[Value.int IntKind.i64 k, Value.int IntKind.i64 n, Value.string s]
  have B1 := below1 w (Obj.cells #[Value.int IntKind.i64 k, Value.int IntKind.i64 n, Value.string s] 42)
  generalize hN : w.heap.size = N at *
  have HN := hd hN
  clear hN
  generalize w.alloc (Obj.cells #[Value.int IntKind.i64 k, Value.int IntKind.i64 n, Value.string s] 42) = w1 at *
  refine (checkV_any k n s _).mono ?_
  rintro e w2 ⟨rfl, hk⟩
  rw [HO.out]
  simp only [if_true]
  rw [← HN.out] at B1
  have B2 := hd (below_below B1 hk)
  have A2 := hd (A1.keep hk)
  clear hk B1 A1
  have c0 := A2.out.cell 0
  have c1 := A2.out.cell 1
  have c2 := A2.out.cell 2
  simp at c0 c1 c2
  go_wp2_with fail
  refine (HU.out w2).mono ?_
  rintro e w3 ⟨a, cap, rfl, ho, hk⟩
  have B3 := hd (below_below B2.out hk)
  have A3 := hd (A2.out.keep hk)
  have O3 := hd (ho.lower B2.out.size)
  clear c0 c1 c2 hk ho A2 B2
  have c0 := A3.out.cell 0
  have c1 := A3.out.cell 1
  have c2 := A3.out.cell 2
  simp at c0 c1 c2
  go_wp2_with fail
  refine (HC.out w3).mono ?_
  rintro e w4 ⟨a2, cap2, rfl, ho, hk⟩
  have B4 := hd (below_below B3.out hk)
  have O4 := hd (O3.out.keep hk)
  obtain ⟨v', w5, hrun, ho5, hk5⟩ := append_ow (ty := 27) O4.out (Or.inl (ho.weaken (A' := fun b => b < w4.heap.size) (fun b hb _ => hb))) ho.1 B4.out.size (by
    have h1 := HL.out
    try simp only at h1
    omega)
  obtain ⟨a5, cap5, rfl⟩ := ho5.len
  have HR := hd hrun
  have HO5 := hd ho5
  have HK5 := hd (B4.out.trans hk5)
  clear c0 c1 c2 hk ho A3 B3 O3 O4 B4 hrun ho5 hk5
  go_wp2_with (at_builtin; refine wpList_append_run _ rfl _ _ _ _ rfl _ _ rfl rfl _ w5 HR.out ?_)
  go_ret2
  refine ⟨a5, cap5, ?_, HO5.out, HK5.out⟩
  rw [List.length_append]
  rfl
theorem vbytes_any (v : ValD) (w : World) : Calls Try.prog 64 #[V3 v] w fun e w' => BEnd w (if okV v then valB v else []) (if okV v then 0 else 80) e w' := by
  obtain ⟨k, n, s⟩ := v
  cases ho : okV (k, n, s)
  · refine (vbytes_bad k n s w ho).mono ?_
    rintro e w' ⟨rfl, hk⟩
    exact ⟨none, 0, 0, rfl, rfl, ⟨Byt.nil, Nat.zero_le _, World.ownsRow_nil w' _ 5 1⟩, hk⟩
  · refine (vbytes_ok k n s w ho).mono ?_
    rintro e w' ⟨a, cap, rfl, h, hk⟩
    exact ⟨a, _, cap, rfl, rfl, h, hk⟩

end Go.Proofs.Yteifaipbckhoiab
