/- DecimalMoves, put together. -/
import Derived.Test.YtohppejblbeemaaLawMoves
import Derived.Test.YtohppejblbeemaaDMoves
import Derived.Test.YtohppejblbeemaaDRefTrim
import Derived.Test.YtohppejblbeemaaDRefErr
import Derived.Test.YtohppejblbeemaaDRefPad
import Derived.Test.YtohppejblbeemaaDRefShiftA
import Derived.Test.YtohppejblbeemaaDRefShiftB
namespace Go.Proofs.Ytohppejblbeemaa
open Go.RowKit

theorem pad_both (d : Dc) (k : Int) (hd : d.Ok) : ∃ (xn : Bool) (xi xf : ByteArray) (c : Int), (∀ wx : World, Calls Try.prog 36 #[(.agg #[.bool d.neg, .string (dStr d.i), .string (dStr d.f)]), .int .i64 k] wx fun e w' => e = .returned (.tuple #[(.agg #[.bool xn, .string xi, .string xf]), .int .i64 c]) ∧ Below wx.heap.size wx w') ∧ (∀ wx : World, Calls Try.prog 37 #[(.agg #[.bool d.neg, .string (dStr d.i), .string (dStr d.f)]), .int .i64 k] wx fun e w' => e = .returned (.tuple #[(.agg #[.bool xn, .string xi, .string xf]), .int .i64 c]) ∧ Below wx.heap.size wx w') := by
  by_cases h0 : k < 0
  · exact ⟨_, _, _, _, fun wx => pad_lo d k wx hd h0, fun wx => refPad_err d.neg (dStr d.i) (dStr d.f) k 0 1 wx (fun wy => refCheck_ok d wy hd) (by decide) (by rw [decide_eq_true h0]; rfl)⟩
  by_cases h1 : 40 < k
  · exact ⟨_, _, _, _, fun wx => pad_hi d k wx hd h1, fun wx => refPad_err d.neg (dStr d.i) (dStr d.f) k 0 1 wx (fun wy => refCheck_ok d wy hd) (by decide) (by rw [decide_eq_false h0, decide_eq_true h1]; rfl)⟩
  obtain ⟨m, rfl⟩ : ∃ m : Nat, k = m := ⟨k.toNat, by omega⟩
  exact ⟨_, _, _, _, fun wx => pad_ok d m wx (padD d m) rfl hd (by omega), fun wx => refPad_ok d m wx (padD d m) rfl hd (by omega)⟩
theorem shift_both (d : Dc) (k : Int) (hd : d.Ok) : ∃ (xn : Bool) (xi xf : ByteArray) (c : Int), (∀ wx : World, Calls Try.prog 38 #[(.agg #[.bool d.neg, .string (dStr d.i), .string (dStr d.f)]), .int .i64 k] wx fun e w' => e = .returned (.tuple #[(.agg #[.bool xn, .string xi, .string xf]), .int .i64 c]) ∧ Below wx.heap.size wx w') ∧ (∀ wx : World, Calls Try.prog 39 #[(.agg #[.bool d.neg, .string (dStr d.i), .string (dStr d.f)]), .int .i64 k] wx fun e w' => e = .returned (.tuple #[(.agg #[.bool xn, .string xi, .string xf]), .int .i64 c]) ∧ Below wx.heap.size wx w') := by
  by_cases h0 : k < -40
  · exact ⟨_, _, _, _, fun wx => shift_lo d k wx hd h0, fun wx => refShift_err d.neg (dStr d.i) (dStr d.f) k 0 1 wx (fun wy => refCheck_ok d wy hd) (by decide) (by rw [decide_eq_true h0]; rfl)⟩
  by_cases h1 : 40 < k
  · exact ⟨_, _, _, _, fun wx => shift_hi d k wx hd h1, fun wx => refShift_err d.neg (dStr d.i) (dStr d.f) k 0 1 wx (fun wy => refCheck_ok d wy hd) (by decide) (by rw [decide_eq_false h0, decide_eq_true h1]; rfl)⟩
  refine ⟨_, _, _, _, fun wx => shift_ok d k wx (shD d k) rfl hd (by omega) (by omega), fun wx => ?_⟩
  by_cases hc : (d.f.length : Int) < k
  · exact refShift_gt d k wx (shD d k) rfl hd (by omega) (by omega) hc
  · exact refShift_le d k wx (shD d k) rfl hd (by omega) (by omega) hc

theorem moves_walk (n : Bool) (i f : ByteArray) (k : Int) (w : World) (hi : i.size ≤ 140737488355328) (hf : f.size ≤ 140737488355328) (_h1 : -9223372036854775808 ≤ k) (_h2 : k ≤ 9223372036854775807) :
    Calls Try.prog 7 #[.agg #[.bool n, .string i, .string f], .int .i64 k] w fun e w' => e = .returned (.bool true) ∧ Below w.heap.size w w' := by
  cases hk : okB n i f with
  | false =>
    have HC := fun wy => refCheck_bad n i f wy hi hf hk
    exact moves_core (w := w) (H1 := fun wx => trim_bad n i f wx hi hf hk) (H2 := fun wx => refTrim_err n i f 20 wx HC (by decide)) (H3 := fun wx => pad_bad n i f k wx hi hf hk) (H4 := fun wx => refPad_err n i f k 20 20 wx HC (by decide) (if_neg (by decide))) (H5 := fun wx => shift_bad n i f k wx hi hf hk) (H6 := fun wx => refShift_err n i f k 20 20 wx HC (by decide) (if_neg (by decide)))
  | true =>
    obtain ⟨d, hd, rfl, rfl, rfl⟩ := ok_cases hk
    obtain ⟨_, _, _, _, H3, H4⟩ := pad_both d k hd
    obtain ⟨_, _, _, _, H5, H6⟩ := shift_both d k hd
    exact moves_core (w := w) (H1 := fun wx => trim_ok d wx hd) (H2 := fun wx => refTrim_ok d wx hd) (H3 := H3) (H4 := H4) (H5 := H5) (H6 := H6)
end Go.Proofs.Ytohppejblbeemaa
