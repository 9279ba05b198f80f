/- unit and worth of the laws of layer 3. -/
import Derived.Test.YtpbljcjghjbjdaaRoAwake
namespace Go.Proofs.Ytpbljcjghjbjdaa
open Go.RowKit
attribute [local go_sem ↓] Go.wp_at_zero Go.wp_at_succ

def unitD (m : Nat) : Dc := if m = 0 then ⟨false, [1], []⟩ else ⟨false, [0], List.replicate (m - 1) 0 ++ [1]⟩
theorem unitD_ok (m : Nat) (h : m ≤ 39) : (unitD m).Ok ∧ (unitD m).num = 1 ∧ (unitD m).f.length = m ∧ (unitD m).neg = false := by
  unfold unitD
  by_cases h0 : m = 0
  · rw [if_pos h0]
    subst h0
    exact ⟨⟨Digs.cons (by omega) Digs.nil, Digs.nil, by decide, by decide, .inl rfl, fun e => by cases e⟩, by decide, rfl, rfl⟩
  · rw [if_neg h0]
    have hn : (⟨false, [0], List.replicate (m - 1) 0 ++ [1]⟩ : Dc).num = 1 := by
      show dVal (0 :: (List.replicate (m - 1) 0 ++ [1])) = 1
      rw [dVal_cons, dVal_snoc, dVal_zeros]
      omega
    refine ⟨⟨Digs.cons (by omega) Digs.nil, (Digs.zeros _).append (Digs.cons (by omega) Digs.nil), Nat.le_refl 1, ?_, .inl rfl, fun e => by cases e⟩, hn, ?_, rfl⟩
    · show 1 + (List.replicate (m - 1) 0 ++ [1]).length ≤ 40
      simp
      omega
    · show (List.replicate (m - 1) 0 ++ [1]).length = m
      simp
      omega

set_option maxHeartbeats 2000000 in
set_option maxRecDepth 100000 in
theorem worth_any (n : Bool) (i f : ByteArray) (w : World) : Calls Try.prog 9 #[.agg #[.bool n, .string i, .string f]] w fun e w' => e = .returned (.agg #[.bool false, .string i, .string f]) ∧ Below w.heap.size w w' := by
  go_enter Try.func9, Try.ntmps9
  go_wp2
  exact bodyPost_ret (v := .agg #[.bool false, .string i, .string f]) (by simp [results, Try.results9, go_sem]) rfl ⟨rfl, below_two w _ _⟩
end Go.Proofs.Ytpbljcjghjbjdaa
