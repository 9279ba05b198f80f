/- DecimalDivides, put together. -/
import Derived.Test.YtmaljkjcibdbgaaLawDivides
import Derived.Test.YtmaljkjcibdbgaaDRefDiv2
namespace Go.Proofs.Ytmaljkjcibdbgaa
open Go.RowKit

theorem divides_walk (na : Bool) (ia fa : ByteArray) (nb : Bool) (ib fb : ByteArray) (w : World) (h1 : ia.size ≤ 140737488355328) (h2 : fa.size ≤ 140737488355328) (h3 : ib.size ≤ 140737488355328) (h4 : fb.size ≤ 140737488355328) :
    Calls Try.prog 5 #[.agg #[.bool na, .string ia, .string fa], .agg #[.bool nb, .string ib, .string fb]] w fun e w' => e = .returned (.bool true) ∧ Below w.heap.size w w' := by
  cases hka : okB na ia fa with
  | false =>
    have HV := fun wx => divided_err na nb ia fa ib fb 20 (ckE nb ib fb) 20 wx (fun wy => refCheck_bad na ia fa wy h1 h2 hka) (fun wy => refCheck_any nb ib fb wy h3 h4) (by decide) rfl
    exact divides_core (w := w) (H1 := fun wx => div_bad1 na nb ia fa ib fb wx h1 h2 hka) (H2 := fun wx => refDiv_err na nb ia fa ib fb 20 wx HV (by decide)) (H3 := fun wx => rem_bad1 na nb ia fa ib fb wx h1 h2 hka) (H4 := fun wx => refRem_err na nb ia fa ib fb 20 wx HV (by decide))
  | true =>
    obtain ⟨a, ha, rfl, rfl, rfl⟩ := ok_cases hka
    cases hkb : okB nb ib fb with
    | false =>
      have HV := fun wx => divided_err a.neg nb (dStr a.i) (dStr a.f) ib fb 0 20 20 wx (fun wy => refCheck_ok a wy ha) (fun wy => refCheck_bad nb ib fb wy h3 h4 hkb) (by decide) rfl
      exact divides_core (w := w) (H1 := fun wx => div_bad2 _ nb _ _ ib fb wx h1 h2 h3 h4 hka hkb) (H2 := fun wx => refDiv_err _ nb _ _ ib fb 20 wx HV (by decide)) (H3 := fun wx => rem_bad2 _ nb _ _ ib fb wx h1 h2 h3 h4 hka hkb) (H4 := fun wx => refRem_err _ nb _ _ ib fb 20 wx HV (by decide))
    | true =>
      obtain ⟨b, hb, rfl, rfl, rfl⟩ := ok_cases hkb
      by_cases h0 : b.num = 0
      · have HV := fun wx => divided_zero a b wx ha hb h0
        exact divides_core (w := w) (H1 := fun wx => div_zero a b wx ha hb h0) (H2 := fun wx => refDiv_err _ _ _ _ _ _ 21 wx HV (by decide)) (H3 := fun wx => rem_zero a b wx ha hb h0) (H4 := fun wx => refRem_err _ _ _ _ _ _ 21 wx HV (by decide))
      · exact divides_core (w := w) (H1 := fun wx => div_ok a b wx _ rfl ha hb h0) (H2 := fun wx => refDiv_ok a b wx _ rfl ha hb h0) (H3 := fun wx => rem_ok a b wx _ rfl ha hb h0) (H4 := fun wx => refRem_ok a b wx _ rfl ha hb h0)
end Go.Proofs.Ytmaljkjcibdbgaa
