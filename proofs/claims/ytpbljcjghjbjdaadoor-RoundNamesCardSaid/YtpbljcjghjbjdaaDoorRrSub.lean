/- The reference's sub of layer 3. -/
import Derived.Test.YtpbljcjghjbjdaaDoorRrCmp
namespace Go.Proofs.YtpbljcjghjbjdaaDoor
open Go.RowKit
attribute [local go_sem ↓] Go.wp_at_zero Go.wp_at_succ

theorem zero_cons (l : List Nat) : (⟨#[48]⟩ : ByteArray) ++ dStr l = dStr (0 :: l) := by
  rw [show (⟨#[48]⟩ : ByteArray) = dStr [0] from rfl, dStr_append]
  rfl
theorem rep_len (j : Nat) (l : List Nat) : (List.replicate j 0 ++ l).length = j + l.length := by simp
theorem rep_val (j : Nat) (l : List Nat) : dVal (List.replicate j 0 ++ l) = dVal l := by rw [dVal_append, dVal_zeros]; omega
theorem text_at (l : List Nat) (h : Digs l) (S : ByteArray) (hS : S = dStr l) (k : Nat) (hk : k < S.size) : (S[k]'hk).toNat = 48 + l.getD k 0 := by subst hS; exact dStr_get l h k hk

end Go.Proofs.YtpbljcjghjbjdaaDoor
