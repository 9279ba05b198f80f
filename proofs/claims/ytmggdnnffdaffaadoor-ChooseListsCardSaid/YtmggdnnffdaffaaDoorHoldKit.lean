/- A decimal as an argument: opened, shut, its bounds. -/
import Derived.Test.YtmggdnnffdaffaaDoorRows
import Derived.ProofKit
import Derived.OpenShut
import Derived.SizedLaws
import Derived.Lib.SmallJoins
namespace Go.Proofs.YtmggdnnffdaffaaDoor
open Go.ChangeShapes Go.WideShapes Go.ChangeAt Go.RowKit Go.Joins
open Go.ChangeMaps (open_string shut_string)

section
variable {H : Type} {enc : TypeId × Value → H} {w : World} {base : Nat} {spare : Nat → Bool} {held : Bool}
set_option maxRecDepth 100000 in
theorem open_dec {b0 : Nat} {v : Value} {d : DataW H} {p : List MemPlace} (hv : Value.okWide Tryd.prog w .any b0 27 v) (h : DataW.Trod enc Tryd.prog w base spare held 27 v d p) :
    ∃ (n : Bool) (i f : ByteArray), v = .agg #[.bool n, .string i, .string f] ∧ d = .agg [.lit (.bool n), .lit (.string i.data.toList), .lit (.string f.data.toList)] ∧ p = [] ∧ i.size ≤ maxLen ∧ f.size ≤ maxLen := by
  obtain ⟨x0, x1, x2, y0, y1, y2, m, rfl, rfl, rfl, t0, t1, t2⟩ := open_agg3 Tryd.underlying27 (by kernel_rfl) (by kernel_rfl) hv h
  obtain ⟨n, hn, rfl⟩ := DataW.trod_bool Tryd.underlying4 t0
  obtain ⟨i, hi, rfl, si⟩ := DataW.trod_string Tryd.underlying9 t1
  obtain ⟨f, hf, rfl, sf⟩ := DataW.trod_string Tryd.underlying9 t2
  simp only [List.cons.injEq, and_true] at hn hi hf
  subst hn hi hf
  exact ⟨n, i, f, rfl, rfl, rfl, si, sf⟩
set_option maxRecDepth 100000 in
theorem shut_dec (n : Bool) (i f : ByteArray) (hi : i.size ≤ maxLen) (hf : f.size ≤ maxLen) :
    DataW.Trod enc Tryd.prog w base spare held 27 (.agg #[.bool n, .string i, .string f]) (.agg [.lit (.bool n), .lit (.string i.data.toList), .lit (.string f.data.toList)]) [] :=
  shut_agg3 (y0 := (.lit (.bool n), [])) (y1 := (.lit (.string i.data.toList), [])) (y2 := (.lit (.string f.data.toList), [])) Tryd.underlying27 (by kernel_rfl) (by kernel_rfl) (shut_bool Tryd.underlying4 n) (shut_string Tryd.underlying9 hi) (shut_string Tryd.underlying9 hf)
end
theorem dec_sized {H : Type} {ts : List TypeId} {ds : List (DataW H)} (h : (DataW.weightsEach Tryd.prog ts ds).all (· ≤ reachBytes) = true) {j : Nat} {x : DataW H} {i f : ByteArray} (ht : ts[j]? = some 27) (hd : ds[j]? = some (.agg [x, .lit (.string i.data.toList), .lit (.string f.data.toList)])) :
    i.size ≤ 140737488355328 ∧ f.size ≤ 140737488355328 := by
  have h0 := reachBytes_lt
  have h1 := List.all_eq_true.1 h _ (DataW.weights_mem_each ht hd i.data.toList.length (by simp [DataW.weights, DataW.weightsEach, Tryd.underlying27]))
  have h2 := List.all_eq_true.1 h _ (DataW.weights_mem_each ht hd f.data.toList.length (by simp [DataW.weights, DataW.weightsEach, Tryd.underlying27]))
  have e1 : i.data.toList.length = i.size := by simp
  have e2 : f.data.toList.length = f.size := by simp
  have h1' := of_decide_eq_true h1
  have h2' := of_decide_eq_true h2
  omega
theorem str_sized {H : Type} {ts : List TypeId} {ds : List (DataW H)} (h : (DataW.weightsEach Tryd.prog ts ds).all (· ≤ reachBytes) = true) {j : Nat} {t : TypeId} {s : ByteArray} (ht : ts[j]? = some t) (hd : ds[j]? = some (.lit (.string s.data.toList))) : s.size ≤ 140737488355328 := by
  have h0 := reachBytes_lt
  have h1 := sized_string h ht hd
  have e1 : s.data.toList.length = s.size := by simp
  omega
theorem own : ownKnob Tryd.prog.godebug = none := by kernel_rfl
end Go.Proofs.YtmggdnnffdaffaaDoor
