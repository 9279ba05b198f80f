/- Two ints in an array as an argument: opened and shut. -/
import Derived.Test.YtcdmanhhddcmcaaHoldKit
namespace Go.Proofs.Ytcdmanhhddcmcaa
open Go.ChangeShapes Go.WideShapes Go.ChangeAt Go.RowKit Go.Joins

section
variable {H : Type} {enc : TypeId × Value → H} {w : World} {base : Nat} {spare : Nat → Bool} {held : Bool}
set_option maxRecDepth 100000 in
theorem open_two {b0 : Nat} {v : Value} {d : DataW H} {p : List MemPlace} (hv : Value.okWide Try.prog w .any b0 51 v) (h : DataW.Trod enc Try.prog w base spare held 51 v d p) :
    ∃ (a b : Int), v = .agg #[.int .i64 a, .int .i64 b] ∧ d = .agg [.lit (.int .i64 a), .lit (.int .i64 b)] ∧ p = [] ∧ (Lit.int .i64 a).wf = true ∧ (Lit.int .i64 b).wf = true := by
  have hu := Try.underlying51
  have hC : Try.prog.cellsOf 51 = 2 := by kernel_rfl
  have hE : Try.prog.cellsOf 3 = 1 := by kernel_rfl
  simp only [Value.okWide, hu] at hv
  obtain ⟨cs, rfl, hsz, _⟩ := hv
  obtain ⟨c0, c1, rfl⟩ := array2 (hsz.trans hC)
  obtain ⟨fuel, hf⟩ := h
  obtain ⟨xs, m, _, hx, _, hl, hi⟩ := DataW.trod_array hu hf
  have i0 := hi 0 (by omega)
  have i1 := hi 1 (by omega)
  match xs, hl with
  | [y0, y1], _ =>
    simp [hE, Value.cells] at i0 i1
    obtain ⟨a, ha, rfl, wa⟩ := DataW.trod_int Try.underlying3 i0
    obtain ⟨b, hb, rfl, wb⟩ := DataW.trod_int Try.underlying3 i1
    simp only [List.cons.injEq, and_true] at ha hb
    subst ha hb
    simp at hx
    exact ⟨a, b, rfl, hx.1, hx.2, wa, wb⟩
set_option maxRecDepth 100000 in
theorem shut_two (a b : Int) (ha : (Lit.int .i64 a).wf = true) (hb : (Lit.int .i64 b).wf = true) :
    DataW.Trod enc Try.prog w base spare held 51 (.agg #[.int .i64 a, .int .i64 b]) (.agg [.lit (.int .i64 a), .lit (.int .i64 b)]) [] := by
  have hu := Try.underlying51
  have hC : Try.prog.cellsOf 51 = 2 := by kernel_rfl
  have hE : Try.prog.cellsOf 3 = 1 := by kernel_rfl
  have hi := Try.underlying3
  refine ⟨2, ?_⟩
  simp [DataW.trod, Value.cells, hu, hC, hE, hi, ha, hb, List.range, List.range.loop, List.mapM_cons, List.mapM_nil]
end
end Go.Proofs.Ytcdmanhhddcmcaa
