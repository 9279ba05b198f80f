/- Of by cases. -/
import Derived.Test.YtmggdnnffdaffaaDoorOpF
namespace Go.Proofs.YtmggdnnffdaffaaDoor
open Go.RowKit

theorem toList_ne {a b : ByteArray} (h : ¬ a = b) : (a.toList == b.toList) = false := by
  rw [Lib.toList_data, Lib.toList_data, beq_eq_false_iff_ne]
  intro e
  apply h
  apply ByteArray.ext
  exact Array.toList_inj.1 e
/-- Without its sign. -/
def absX (x : Dc) : Dc := ⟨false, x.i, x.f⟩
/-- The fraction without noughts behind. -/
def cutF (x : Dc) : List Nat := x.f.take (trimTo x.f x.f.length)
theorem absX_ok {x : Dc} (h : x.Ok) : (absX x).Ok := absD_ok h
theorem absX_trim (x : Dc) : trimD (absX x) = ⟨false, x.i, cutF x⟩ := rfl
theorem of_cases (n : Bool) (i f : ByteArray) (k : Int) (h1 : i.size ≤ 140737488355328) (h2 : f.size ≤ 140737488355328) :
    (∃ c : Int, (c = 20 ∨ c = 1 ∨ c = 3) ∧ (c = 20 ↔ okB n i f = false) ∧ ∀ wx : World, Calls Tryd.prog 7 #[.agg #[.bool n, .string i, .string f], .int .i64 k] wx fun e w' => e = .returned (.tuple #[.agg #[.bool false, .string ⟨#[]⟩, .string ⟨#[]⟩, .string ⟨#[]⟩, .int .i64 0, .int .i64 0, .string ⟨#[]⟩, .string ⟨#[]⟩, .int .i64 0], .int .i64 c]) ∧ Below wx.heap.size wx w') ∨
    (∃ d x : Dc, d.Ok ∧ n = d.neg ∧ i = dStr d.i ∧ f = dStr d.f ∧ 0 ≤ k ∧ k ≤ 40 ∧ shD d k = some x ∧ x.Ok) := by
  cases h : okB n i f with
  | false => exact .inl ⟨20, .inl rfl, ⟨fun _ => rfl, fun _ => rfl⟩, fun wx => of_bad n i f k wx h1 h2 h⟩
  | true =>
    obtain ⟨d, hd, rfl, rfl, rfl⟩ := ok_cases h
    by_cases hk : 0 ≤ k ∧ k ≤ 40
    · cases ho : shD d k with
      | none => exact .inl ⟨3, .inr (.inr rfl), ⟨fun h => absurd h (by decide), fun h => by cases h⟩, fun wx => of_none d k wx hd hk.1 hk.2 ho⟩
      | some x => exact .inr ⟨d, x, hd, rfl, rfl, rfl, hk.1, hk.2, ho, sh_ok ho⟩
    · exact .inl ⟨1, .inr (.inl rfl), ⟨fun h => absurd h (by decide), fun h => by cases h⟩, fun wx => of_arg d k wx hd hk⟩
theorem of_told {d x : Dc} {k : Int} (hd : d.Ok) (hx : x.Ok) (hk1 : 0 ≤ k) (hk2 : k ≤ 40) (ho : shD d k = some x) :
    ∀ wx : World, Calls Tryd.prog 7 #[.agg #[.bool d.neg, .string (dStr d.i), .string (dStr d.f)], .int .i64 k] wx fun e w' => e = .returned (.tuple #[.agg #[.bool false, .string (dStr x.i), .string (dStr (cutF x)), .string (dStr x.i), .int .i64 x.f.length, .int .i64 (cutF x).length, .string (dStr (intg x.f)), .string (dStr (intg (cutF x))), .int .i64 k], .int .i64 0]) ∧ Below wx.heap.size wx w' := fun wx => of_ok d x ⟨false, x.i, cutF x⟩ k wx hd hx hk1 hk2 ho (absX_trim x)
theorem shift_told {d x : Dc} {k : Int} (hd : d.Ok) (hk1 : 0 ≤ k) (hk2 : k ≤ 40) (ho : shD d k = some x) :
    ∀ wx : World, Calls Tryd.prog 18 #[.agg #[.bool d.neg, .string (dStr d.i), .string (dStr d.f)], .int .i64 k] wx fun e w' => e = .returned (.tuple #[.agg #[.bool x.neg, .string (dStr x.i), .string (dStr x.f)], .int .i64 0]) ∧ Below wx.heap.size wx w' := fun wx => shift_ok d k wx (some x) ho hd (by omega) hk2

end Go.Proofs.YtmggdnnffdaffaaDoor
