/- Leaves of operand: a compact exponent's bounds; digits as a whole number. -/
import Derived.Test.YtmggdnnffdaffaaDoorDLeaf
namespace Go.Proofs.YtmggdnnffdaffaaDoor
open Go.RowKit

/-- Digits without noughts ahead, "0" where nothing is left. -/
def intg (l : List Nat) : List Nat := digs (dVal l)
theorem getD_at {l : List Nat} (k : Nat) (h : k < l.length) : l.getD k 0 = l[k] := by
  rw [List.getD_eq_getElem?_getD, List.getElem?_eq_getElem h]; rfl
theorem intg_skip {l : List Nat} (hd : Digs l) : ∀ k, k < l.length → (∀ j, j < k → l.getD j 0 = 0) → l.getD k 0 ≠ 0 → l.drop k = intg l := by
  intro k hk h0 hne
  have e : l = List.replicate k 0 ++ l.drop k := by
    apply List.ext_getElem
    · simp; omega
    · intro i h1 h2
      by_cases hi : i < k
      · have := h0 i hi
        rw [getD_at _ h1] at this
        rw [List.getElem_append_left (by simpa using hi), List.getElem_replicate]
        exact this
      · rw [List.getElem_append_right (by simp; omega), List.getElem_drop]
        congr 1
        simp
        omega
  unfold intg
  rw [← dLead_digs l hd]
  have hdr : Digs (l.drop k) := hd.drop k
  have key : ∀ (n : Nat) (r : List Nat), (∃ x t, r = x :: t ∧ x ≠ 0) → dLead (List.replicate n 0 ++ r) = r := by
    intro n
    induction n with
    | zero =>
      rintro r ⟨x, t, rfl, hx⟩
      show dLead (x :: t) = _
      match t with
      | [] => rfl
      | y :: t => exact if_neg hx
    | succ n ih =>
      rintro r ⟨x, t, rfl, hx⟩
      have := ih (x :: t) ⟨x, t, rfl, hx⟩
      rw [List.replicate_succ, List.cons_append]
      cases hn : List.replicate n 0 ++ x :: t with
      | nil => simp at hn
      | cons a b => rw [hn] at this; exact (if_pos rfl).trans this
  have hx : l.drop k = l[k] :: l.drop (k + 1) := List.drop_eq_getElem_cons hk
  rw [getD_at _ hk] at hne
  have := key k (l.drop k) ⟨_, _, hx, hne⟩
  rw [← e] at this
  exact this.symm
theorem intg_none {l : List Nat} (h0 : ∀ j, j < l.length → l.getD j 0 = 0) : [0] = intg l := by
  have e : l = List.replicate l.length 0 := by
    apply List.ext_getElem
    · simp
    · intro i h1 h2
      have := h0 i h1
      rw [getD_at _ h1] at this
      rw [List.getElem_replicate]
      exact this
  unfold intg
  rw [e, dVal_zeros]
  unfold digs
  rw [digsR_small (by omega)]
  rfl

set_option maxHeartbeats 1000000 in
set_option maxRecDepth 100000 in
theorem integer_any (l : List Nat) (w : World) (hd : Digs l) (hl : l.length ≤ 1000000) :
    Calls Tryd.prog 37 #[.string (dStr l)] w fun e w' => e = .returned (.string (dStr (intg l))) ∧ w = w' := by
  have sl : (dStr l).size = l.length := dStr_size l
  obtain ⟨S, hS⟩ : ∃ S, S = dStr l := ⟨_, rfl⟩
  have HS := Lib.hid hS
  have HL := Lib.hid (intg_skip hd)
  have HN := Lib.hid (@intg_none l)
  have HG : Hid (∀ k, (h : k < S.size) → (S[k]'h).toNat = 48 + l.getD k 0) := by
    show ∀ k, _
    subst hS
    exact fun k h => dStr_get l hd k h
  rw [← hS] at sl ⊢
  clear hS hd
  go_enter Tryd.func37, Tryd.ntmps37
  go_wp2
  go_loop [6] (fun i => ∃ k : Nat, i = .int .i64 k ∧ k ≤ l.length ∧ ∀ j, j < k → l.getD j 0 = 0) (fun i => l.length - (intOf i).toNat)
  case atStart => exact ⟨0, rfl, by omega, fun j hj => by omega⟩
  case round =>
    obtain ⟨k, rfl, hk, hD⟩ := hrel
    have HD := Lib.hid hD
    clear hD
    by_cases hlt : k < S.size
    · have hget := HG.out k hlt
      by_cases h0 : l.getD k 0 = 0
      · have q : (((S[k]'hlt).toNat : Int) != 48) = false := by rw [hget, h0]; rfl
        have H0 := Lib.hid h0
        clear h0 hget
        go_wp2
        go_round
        case rel =>
          refine ⟨k + 1, by go_num, by omega, fun j hj => ?_⟩
          by_cases e : j = k
          · subst e; exact H0.out
          · exact HD.out j (by omega)
        case measure => simp [intOf]; omega
      · have q : (((S[k]'hlt).toNat : Int) != 48) = true := by rw [hget, bne_iff_ne]; omega
        have HE : Hid (S.extract k l.length = dStr (intg l)) := by
          show _ = _
          rw [HS.out, dStr_ext, List.take_length, HL.out k (by omega) HD.out h0]
        have SL := Lib.hid sl
        clear h0 hget
        go_wp2
        go_ret
        exact ⟨ret_str HE.out, rfl⟩
    · have HE : Hid (dStr [0] = dStr (intg l)) := congrArg dStr (HN.out fun j hj => HD.out j (by omega))
      go_wp2
      go_ret
      exact ⟨ret_str HE.out, rfl⟩

set_option maxRecDepth 100000 in
theorem isExp_any (k : Int) (w : World) :
    Calls Tryd.prog 17 #[.int .i64 k] w fun e w' => e = .returned (.bool (decide (0 ≤ k ∧ k ≤ 40))) ∧ w = w' := by
  by_cases h1 : 0 ≤ k <;> by_cases h2 : k ≤ 40
  all_goals
    go_enter Tryd.func17, Tryd.ntmps17
    go_wp2
    go_ret
    exact ⟨by simp [h1, h2], rfl⟩
end Go.Proofs.YtmggdnnffdaffaaDoor
