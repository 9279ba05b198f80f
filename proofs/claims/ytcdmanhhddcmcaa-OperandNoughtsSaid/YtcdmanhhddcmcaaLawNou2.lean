/- Pad by cases; OperandNoughts by cases. -/
import Derived.Test.YtcdmanhhddcmcaaLawNou
namespace Go.Proofs.Ytcdmanhhddcmcaa
open Go.RowKit
theorem pad_cases (n : Bool) (i f : ByteArray) (k : Int) (h1 : i.size ≤ 140737488355328) (h2 : f.size ≤ 140737488355328) :
    (∃ c : Int, (c = 20 ∨ c = 1 ∨ c = 3) ∧ ∀ wx : World, Calls Try.prog 21 #[.agg #[.bool n, .string i, .string f], .int .i64 k] wx fun e w' => e = .returned (.tuple #[.agg #[.bool false, .string ⟨#[]⟩, .string ⟨#[]⟩], .int .i64 c]) ∧ Below wx.heap.size wx w') ∨
    (∃ (d : Dc) (j : Nat), d.Ok ∧ n = d.neg ∧ i = dStr d.i ∧ f = dStr d.f ∧ 0 ≤ k ∧ k ≤ 40 ∧ (padded d j).Ok ∧ padD d k.toNat = some (padded d j) ∧ ∀ wx : World, Calls Try.prog 21 #[.agg #[.bool d.neg, .string (dStr d.i), .string (dStr d.f)], .int .i64 k] wx fun e w' => e = .returned (.tuple #[.agg #[.bool (padded d j).neg, .string (dStr (padded d j).i), .string (dStr (padded d j).f)], .int .i64 0]) ∧ Below wx.heap.size wx w') := by
  cases h : okB n i f with
  | false => exact .inl ⟨20, .inl rfl, fun wx => pad_bad n i f k wx h1 h2 h⟩
  | true =>
    obtain ⟨d, hd, rfl, rfl, rfl⟩ := ok_cases h
    by_cases hk0 : k < 0
    · exact .inl ⟨1, .inr (.inl rfl), fun wx => pad_lo d k wx hd hk0⟩
    by_cases hk : 40 < k
    · exact .inl ⟨1, .inr (.inl rfl), fun wx => pad_hi d k wx hd hk⟩
    obtain ⟨m, rfl⟩ : ∃ m : Nat, k = (m : Int) := ⟨k.toNat, by omega⟩
    cases ho : padD d m with
    | none => exact .inl ⟨3, .inr (.inr rfl), fun wx => pad_ok d m wx none ho hd (by omega)⟩
    | some p =>
      have hp := pad_form hd m (max d.f.length m) rfl
      have hpo : p.Ok := by
        unfold padD mkN at ho
        exact (mk_some ho).2.2.1
      rw [ho] at hp
      split at hp
      · cases hp
      · cases hp
        exact .inr ⟨d, _, hd, rfl, rfl, rfl, by omega, by omega, hpo, by rw [Int.toNat_natCast]; exact ho, fun wx => pad_ok d m wx _ ho hd (by omega)⟩
theorem trim_zeros (f : List Nat) (r : List Nat) : ∀ k, k ≤ f.length → trimTo (f ++ r) k = trimTo f k
  | 0, _ => rfl
  | k + 1, hk => by
    have ih := trim_zeros f r k (by omega)
    have e : (f ++ r).getD k 0 = f.getD k 0 := by
      rw [getD_at k (by simp; omega), getD_at k (by omega), List.getElem_append_left (by omega)]
    show (if (f ++ r).getD k 0 = 0 then trimTo (f ++ r) k else k + 1) = if f.getD k 0 = 0 then trimTo f k else k + 1
    rw [e, ih]
theorem trim_more (f : List Nat) : ∀ m j, trimTo (f ++ List.replicate (m + j) 0) (f.length + m) = trimTo f f.length
  | 0, j => by rw [Nat.add_zero]; exact trim_zeros f _ _ (Nat.le_refl _)
  | m + 1, j => by
    have ih := trim_more f m (j + 1)
    rw [show m + (j + 1) = m + 1 + j by omega] at ih
    have e : (f ++ List.replicate (m + 1 + j) 0).getD (f.length + m) 0 = 0 := by
      rw [getD_at _ (by simp; omega), List.getElem_append_right (by omega), List.getElem_replicate]
    rw [← Nat.add_assoc]
    exact (if_pos e).trans ih
theorem cut_padded (d : Dc) (j : Nat) : cutF (padded d j) = cutF d := by
  unfold cutF padded
  show (d.f ++ List.replicate j 0).take (trimTo (d.f ++ List.replicate j 0) (d.f ++ List.replicate j 0).length) = _
  have h := trim_more d.f j 0
  rw [Nat.add_zero] at h
  rw [List.length_append, List.length_replicate, h, List.take_append_of_le_length (trimTo_le _ _)]

theorem nou_walk (n : Bool) (i f : ByteArray) (k : Int) (w : World) (h1 : i.size ≤ 140737488355328) (h2 : f.size ≤ 140737488355328) (_h3 : -9223372036854775808 ≤ k) (_h4 : k ≤ 9223372036854775807) :
    Calls Try.prog 6 #[.agg #[.bool n, .string i, .string f], .int .i64 k] w fun e w' => e = .returned (.bool true) ∧ Below w.heap.size w w' := by
  rcases pad_cases n i f k h1 h2 with ⟨c, hc, HA⟩ | ⟨d, j, hd, rfl, rfl, rfl, -, -, hp, -, HA⟩
  · have q : (c == 0) = false := by rcases hc with rfl | rfl | rfl <;> rfl
    exact nou_err (H1 := HA) (hc := q) (w := w) (n := k)
  · have A1 := of_told hd hd (by omega) (by omega) (shift_zero hd)
    have A2 := of_told hp hp (by omega) (by omega) (shift_zero hp)
    rw [cut_padded] at A2
    exact nou_ok (H1 := HA) (H2 := A1) (H3 := A2) (w := w) (n := k) (hL := dStr_size _)
end Go.Proofs.Ytcdmanhhddcmcaa
