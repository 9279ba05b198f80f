/- unit and worth of the laws of layer 3. -/
import Derived.Test.YtmaljkjcibdbgaaRoAwake
namespace Go.Proofs.Ytmaljkjcibdbgaa
open Go.RowKit
attribute [local go_sem ↓] Go.wp_at_zero Go.wp_at_succ

def unitD (m : Nat) : Dc := if m = 0 then ⟨false, [1], []⟩ else ⟨false, [0], List.replicate (m - 1) 0 ++ [1]⟩
theorem unitD_ok (m : Nat) (h : m ≤ 39) : (unitD m).Ok ∧ (unitD m).num = 1 ∧ (unitD m).f.length = m ∧ (unitD m).neg = false := by
  unfold unitD
  by_cases h0 : m = 0
  · rw [if_pos h0]
    subst h0
    exact ⟨⟨Digs.cons (by omega) Digs.nil, Digs.nil, by decide, by decide, .inl rfl, fun e => by cases e⟩, by decide, rfl, rfl⟩
  · rw [if_neg h0]
    have hn : (⟨false, [0], List.replicate (m - 1) 0 ++ [1]⟩ : Dc).num = 1 := by
      show dVal (0 :: (List.replicate (m - 1) 0 ++ [1])) = 1
      rw [dVal_cons, dVal_snoc, dVal_zeros]
      omega
    refine ⟨⟨Digs.cons (by omega) Digs.nil, (Digs.zeros _).append (Digs.cons (by omega) Digs.nil), Nat.le_refl 1, ?_, .inl rfl, fun e => by cases e⟩, hn, ?_, rfl⟩
    · show 1 + (List.replicate (m - 1) 0 ++ [1]).length ≤ 40
      simp
      omega
    · show (List.replicate (m - 1) 0 ++ [1]).length = m
      simp
      omega

set_option maxHeartbeats 2000000 in
set_option maxRecDepth 100000 in
theorem unit_any (m : Nat) (w : World) (h : m ≤ 1000) : Calls Try.prog 42 #[.int .i64 (m : Int)] w fun e w' => e = .returned (.agg #[.bool (unitD m).neg, .string (dStr (unitD m).i), .string (dStr (unitD m).f)]) ∧ Below w.heap.size w w' := by
  by_cases h0 : m = 0
  · subst h0
    have HR : Hid ((Value.agg #[.bool (unitD 0).neg, .string (dStr (unitD 0).i), .string (dStr (unitD 0).f)]) = .agg #[.bool false, .string ⟨#[49]⟩, .string ⟨#[]⟩]) := rfl
    rw [HR.out]
    go_enter Try.func42, Try.ntmps42
    go_wp2
    exact bodyPost_ret (v := .agg #[.bool false, .string ⟨#[49]⟩, .string ⟨#[]⟩]) (by simp [results, Try.results42, go_sem]) rfl ⟨rfl, (Below.refl _ w).alloc (Nat.le_refl _) _⟩
  · have q : ((m : Int) == 0) = false := beq_eq_false_iff_ne.2 (by omega)
    have wz : IntKind.i64.wrap ((m : Int) - 1) = (m : Int) - 1 := IntWalk.i64_in _ (by omega)
    obtain ⟨NN, hNN⟩ : ∃ NN, NN = dStr (List.replicate (m - 1) 0) := ⟨_, rfl⟩
    have DN : Hid (∀ (wx : World) {nI : Int}, nI = (m : Int) - 1 → Calls Try.prog 73 #[.int .i64 nI] wx fun r w' => r = .returned (.string NN) ∧ Below wx.heap.size wx w') := fun wx nI hI => by
      rw [hNN]
      exact rnoughts_any (m - 1) nI wx (by omega) (by omega)
    have hNz : NN.size ≤ 1000 := by rw [hNN, dStr_size, List.length_replicate]; omega
    have g1 : ¬ 9223372036854775807 < NN.size + 1 := by omega
    have HR : Hid ((Value.agg #[.bool (unitD m).neg, .string (dStr (unitD m).i), .string (dStr (unitD m).f)]) = .agg #[.bool false, .string ⟨#[48]⟩, .string (NN ++ ⟨#[49]⟩)]) := by
      show _ = _
      rw [hNN, one_text, dStr_append]
      unfold unitD
      rw [if_neg h0]
      rfl
    rw [HR.out]
    clear hNN h0 h
    go_enter Try.func42, Try.ntmps42
    go_wp2_with fail
    obtain ⟨W2, hW2⟩ : ∃ W2, W2 = w.alloc (.cells #[.bool false, .string ⟨#[]⟩, .string ⟨#[]⟩] 23) := ⟨_, rfl⟩
    obtain ⟨hb2, hz2, CR, FR⟩ : Below w.heap.size w W2 ∧ w.heap.size + 1 ≤ W2.heap.size ∧ Cells3 W2 w.heap.size (.bool false) (.string ⟨#[]⟩) (.string ⟨#[]⟩) ∧ ∀ i, W2.frozen? ⟨w.heap.size, i, none⟩ = false := by rw [hW2]; exact ⟨(Below.refl _ w).alloc (Nat.le_refl _) _, one_box w _ _ _ _⟩
    rw [← hW2]
    clear hW2
    (with_reducible refine (DN.out _ ?_).mono ?_)
    · rfl
    rintro e V3 ⟨rfl, hb3⟩
    obtain ⟨r0, r1, r2⟩ := CR.keep hb3 (by omega)
    have z0 := frozen_keep FR hb3 (by omega)
    have B3 := Lib.hid (hb2.trans (hb3.mono hb2.size))
    obtain ⟨e0, e1, e2⟩ := res_cells r0 r1 r2 (.bool false) (.string ⟨#[48]⟩) (.string (NN ++ ⟨#[49]⟩))
    clear hb3 hb2 CR FR
    go_wp2
    exact bodyPost_ret (v := .agg #[.bool false, .string ⟨#[48]⟩, .string (NN ++ ⟨#[49]⟩)]) (by simp [results, Try.results42, go_sem, e0, e1, e2]) rfl ⟨rfl, res_below B3.out (Nat.le_refl _) _ _ _⟩

set_option maxHeartbeats 2000000 in
set_option maxRecDepth 100000 in
theorem worth_any (n : Bool) (i f : ByteArray) (w : World) : Calls Try.prog 41 #[.agg #[.bool n, .string i, .string f]] w fun e w' => e = .returned (.agg #[.bool false, .string i, .string f]) ∧ Below w.heap.size w w' := by
  go_enter Try.func41, Try.ntmps41
  go_wp2
  exact bodyPost_ret (v := .agg #[.bool false, .string i, .string f]) (by simp [results, Try.results41, go_sem]) rfl ⟨rfl, below_two w _ _⟩
end Go.Proofs.Ytmaljkjcibdbgaa
