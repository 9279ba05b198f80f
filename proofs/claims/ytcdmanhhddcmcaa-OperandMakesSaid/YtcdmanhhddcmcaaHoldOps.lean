/- Operands as an argument: opened and shut, their bounds. -/
import Derived.Test.YtcdmanhhddcmcaaHoldKit
namespace Go.Proofs.Ytcdmanhhddcmcaa
open Go.ChangeShapes Go.WideShapes Go.ChangeAt Go.RowKit Go.Joins

theorem array9 {α : Type} {cs : Array α} (h : cs.size = 9) : ∃ c0 c1 c2 c3 c4 c5 c6 c7 c8, cs = #[c0, c1, c2, c3, c4, c5, c6, c7, c8] := by
  obtain ⟨l⟩ := cs
  match l, h with
  | [c0, c1, c2, c3, c4, c5, c6, c7, c8], _ => exact ⟨c0, c1, c2, c3, c4, c5, c6, c7, c8, rfl⟩
theorem ops_cells : Try.prog.cellsOf 25 = 9 := by kernel_rfl
theorem dec_cells : Try.prog.cellsOf 23 = 3 := by kernel_rfl
theorem int_cells : Try.prog.cellsOf 3 = 1 := by kernel_rfl
theorem str_cells : Try.prog.cellsOf 9 = 1 := by kernel_rfl
theorem bool_cells : Try.prog.cellsOf 4 = 1 := by kernel_rfl

section
variable {H : Type} {enc : TypeId × Value → H} {w : World} {base : Nat} {spare : Nat → Bool} {held : Bool}
theorem open_dec_cells {n : Nat} {c0 c1 c2 : Value} {y : DataW H × List MemPlace} (h : DataW.trod enc Try.prog w base spare held n 23 [c0, c1, c2] = some y) :
    ∃ (a : Bool) (i f : ByteArray), c0 = .bool a ∧ c1 = .string i ∧ c2 = .string f ∧ y = (.agg [.lit (.bool a), .lit (.string i.data.toList), .lit (.string f.data.toList)], []) ∧ i.size ≤ maxLen ∧ f.size ≤ maxLen := by
  obtain ⟨xs, m, _, hx, hl, hlen, hi⟩ := DataW.trod_struct Try.underlying23 h
  match xs, hlen with
  | [y0, y1, y2], _ =>
    have i0 := hi 0 _ rfl
    have i1 := hi 1 _ rfl
    have i2 := hi 2 _ rfl
    simp [bool_cells] at i0
    simp [str_cells] at i1 i2
    obtain ⟨a, ha, rfl⟩ := DataW.trod_bool Try.underlying4 i0
    obtain ⟨i, hi1, rfl, si⟩ := DataW.trod_string Try.underlying9 i1
    obtain ⟨f, hf1, rfl, sf⟩ := DataW.trod_string Try.underlying9 i2
    simp only [List.cons.injEq, and_true] at ha hi1 hf1
    exact ⟨a, i, f, ha, hi1, hf1, by simpa using hx, si, sf⟩
set_option maxRecDepth 100000 in
theorem open_ops {b0 : Nat} {v : Value} {d : DataW H} {p : List MemPlace} (hv : Value.okWide Try.prog w .any b0 25 v) (h : DataW.Trod enc Try.prog w base spare held 25 v d p) :
    ∃ (n : Bool) (i f I : ByteArray) (V W : Int) (F T : ByteArray) (E : Int), v = .agg #[.bool n, .string i, .string f, .string I, .int .i64 V, .int .i64 W, .string F, .string T, .int .i64 E] ∧
      d = .agg [.agg [.lit (.bool n), .lit (.string i.data.toList), .lit (.string f.data.toList)], .lit (.string I.data.toList), .lit (.int .i64 V), .lit (.int .i64 W), .lit (.string F.data.toList), .lit (.string T.data.toList), .lit (.int .i64 E)] ∧ p = [] ∧
      i.size ≤ maxLen ∧ f.size ≤ maxLen ∧ I.size ≤ maxLen ∧ (Lit.int .i64 V).wf = true ∧ (Lit.int .i64 W).wf = true ∧ F.size ≤ maxLen ∧ T.size ≤ maxLen ∧ (Lit.int .i64 E).wf = true := by
  obtain ⟨cs, rfl, hsz⟩ := okWide_struct Try.underlying25 hv
  obtain ⟨c0, c1, c2, c3, c4, c5, c6, c7, c8, rfl⟩ := array9 (hsz.trans ops_cells)
  obtain ⟨fuel, hf⟩ := h
  obtain ⟨xs, m, _, hx, hl, hlen, hi⟩ := DataW.trod_struct Try.underlying25 hf
  match xs, hlen with
  | [y0, y1, y2, y3, y4, y5, y6], _ =>
    have i0 := hi 0 _ rfl
    have i1 := hi 1 _ rfl
    have i2 := hi 2 _ rfl
    have i3 := hi 3 _ rfl
    have i4 := hi 4 _ rfl
    have i5 := hi 5 _ rfl
    have i6 := hi 6 _ rfl
    simp [dec_cells, Value.cells] at i0
    simp [str_cells, Value.cells] at i1 i4 i5
    simp [int_cells, Value.cells] at i2 i3 i6
    obtain ⟨n, i, f, rfl, rfl, rfl, rfl, si, sf⟩ := open_dec_cells i0
    obtain ⟨I, h1, rfl, s1⟩ := DataW.trod_string Try.underlying9 i1
    obtain ⟨V, h2, rfl, s2⟩ := DataW.trod_int Try.underlying3 i2
    obtain ⟨W, h3, rfl, s3⟩ := DataW.trod_int Try.underlying3 i3
    obtain ⟨F, h4, rfl, s4⟩ := DataW.trod_string Try.underlying9 i4
    obtain ⟨T, h5, rfl, s5⟩ := DataW.trod_string Try.underlying9 i5
    obtain ⟨E, h6, rfl, s6⟩ := DataW.trod_int Try.underlying3 i6
    simp only [List.cons.injEq, and_true] at h1 h2 h3 h4 h5 h6
    subst h1 h2 h3 h4 h5 h6
    simp at hx
    exact ⟨n, i, f, I, V, W, F, T, E, rfl, hx.1, hx.2, si, sf, s1, s2, s3, s4, s5, s6⟩
set_option maxRecDepth 100000 in
theorem shut_ops (n : Bool) (i f I : ByteArray) (V W : Int) (F T : ByteArray) (E : Int) (si : i.size ≤ maxLen) (sf : f.size ≤ maxLen) (s1 : I.size ≤ maxLen) (s2 : (Lit.int .i64 V).wf = true) (s3 : (Lit.int .i64 W).wf = true) (s4 : F.size ≤ maxLen) (s5 : T.size ≤ maxLen) (s6 : (Lit.int .i64 E).wf = true) :
    DataW.Trod enc Try.prog w base spare held 25 (.agg #[.bool n, .string i, .string f, .string I, .int .i64 V, .int .i64 W, .string F, .string T, .int .i64 E]) (.agg [.agg [.lit (.bool n), .lit (.string i.data.toList), .lit (.string f.data.toList)], .lit (.string I.data.toList), .lit (.int .i64 V), .lit (.int .i64 W), .lit (.string F.data.toList), .lit (.string T.data.toList), .lit (.int .i64 E)]) [] := by
  refine ⟨3, ?_⟩
  simp [DataW.trod, Value.cells, Try.underlying25, Try.underlying23, Try.underlying4, Try.underlying9, Try.underlying3, ops_cells, dec_cells, int_cells, str_cells, bool_cells, si, sf, s1, s2, s3, s4, s5, s6, List.mapM_cons, List.mapM_nil]
end
theorem ops_sized {H : Type} {ts : List TypeId} {ds : List (DataW H)} (h : (DataW.weightsEach Try.prog ts ds).all (· ≤ reachBytes) = true) {j : Nat} {x a b c e g k : DataW H} {i f : ByteArray} (ht : ts[j]? = some 25) (hd : ds[j]? = some (.agg [.agg [x, .lit (.string i.data.toList), .lit (.string f.data.toList)], a, b, c, e, g, k])) :
    i.size ≤ 140737488355328 ∧ f.size ≤ 140737488355328 := by
  have h0 := reachBytes_lt
  have h1 := List.all_eq_true.1 h _ (DataW.weights_mem_each ht hd i.data.toList.length (by simp [DataW.weights, DataW.weightsEach, Try.underlying25, Try.underlying23]))
  have h2 := List.all_eq_true.1 h _ (DataW.weights_mem_each ht hd f.data.toList.length (by simp [DataW.weights, DataW.weightsEach, Try.underlying25, Try.underlying23]))
  have e1 : i.data.toList.length = i.size := by simp
  have e2 : f.data.toList.length = f.size := by simp
  have h1' := of_decide_eq_true h1
  have h2' := of_decide_eq_true h2
  omega
end Go.Proofs.Ytcdmanhhddcmcaa
