/- part of the laws of layer 4: a whole number's text in so many places. -/
import Derived.Test.YtcdmanhhddcmcaaOpG
namespace Go.Proofs.Ytcdmanhhddcmcaa
open Go.RowKit

set_option maxHeartbeats 1000000 in
set_option maxRecDepth 100000 in
theorem part_loop (s : ByteArray) (b : List Nat) (m : Nat) (w : World) (hb : b.length ≤ m) (hm : m ≤ 1000000)
    (h0 : (s = dStr b ∧ (s.toList == [48]) = false) ∨ (s = ⟨#[48]⟩ ∧ b = [])) :
    Calls Try.prog 20 #[.string s, .int .i64 m] w fun e w' => e = .returned (.string (dStr (List.replicate (m - b.length) 0 ++ b))) ∧ w = w' := by
  have HE : Hid (∀ r, r + b.length = m → dStr (List.replicate r 0 ++ b) = dStr (List.replicate (m - b.length) 0 ++ b)) := by
    intro r hr
    rw [show r = m - b.length by omega]
  have HS : Hid (∀ r, (⟨#[48]⟩ : ByteArray) ++ dStr (List.replicate r 0 ++ b) = dStr (List.replicate (r + 1) 0 ++ b)) := by
    intro r
    rw [show (⟨#[48]⟩ : ByteArray) = dStr [0] from rfl, dStr_append]
    rw [List.replicate_succ]
    rfl
  rcases h0 with ⟨rfl, q⟩ | ⟨rfl, rfl⟩
  · go_enter Try.func20, Try.ntmps20
    go_wp2
    go_loop [0] (fun v => ∃ r : Nat, v = .string (dStr (List.replicate r 0 ++ b)) ∧ r + b.length ≤ m) (fun v => m - sizeOfStr v)
    case atStart => exact ⟨0, rfl, by omega⟩
    case round =>
      obtain ⟨r, rfl, hr⟩ := hrel
      have sz : (dStr (List.replicate r 0 ++ b)).size = r + b.length := by rw [dStr_size]; simp
      obtain ⟨S, hS⟩ : ∃ S, S = dStr (List.replicate r 0 ++ b) := ⟨_, rfl⟩
      have HX := HS.out r
      have HY := Lib.hid (HE.out r)
      rw [← hS] at sz HX HY ⊢
      have HSZ := Lib.hid sz
      have KX := Lib.hid HX
      clear HX hS
      by_cases hlt : r + b.length < m
      · go_wp2
        go_round
        case rel => exact ⟨r + 1, congrArg Value.string KX.out, by omega⟩
        case measure =>
          have e1 := HSZ.out
          have e2 : ((⟨#[48]⟩ : ByteArray) ++ S).size = r + 1 + b.length := by rw [KX.out, dStr_size]; simp
          show m - ((⟨#[48]⟩ : ByteArray) ++ S).size < m - S.size
          omega
      · go_wp2
        go_ret
        exact ⟨ret_str (HY.out (by omega)), rfl⟩
  · go_enter Try.func20, Try.ntmps20
    go_wp2
    go_loop [0] (fun v => ∃ r : Nat, v = .string (dStr (List.replicate r 0 ++ [])) ∧ r + 0 ≤ m) (fun v => m - sizeOfStr v)
    case atStart => exact ⟨0, rfl, by omega⟩
    case round =>
      obtain ⟨r, rfl, hr⟩ := hrel
      have sz : (dStr (List.replicate r 0 ++ [])).size = r := by rw [dStr_size]; simp
      obtain ⟨S, hS⟩ : ∃ S, S = dStr (List.replicate r 0 ++ []) := ⟨_, rfl⟩
      have HX := HS.out r
      have HY := Lib.hid (HE.out r)
      rw [← hS] at sz HX HY ⊢
      have HSZ := Lib.hid sz
      have KX := Lib.hid HX
      clear HX hS
      by_cases hlt : r < m
      · go_wp2
        go_round
        case rel => exact ⟨r + 1, congrArg Value.string KX.out, by omega⟩
        case measure =>
          have e1 := HSZ.out
          have e2 : ((⟨#[48]⟩ : ByteArray) ++ S).size = r + 1 := by rw [KX.out, dStr_size]; simp
          show m - ((⟨#[48]⟩ : ByteArray) ++ S).size < m - S.size
          omega
      · go_wp2
        go_ret
        exact ⟨ret_str (by have := HY.out (by simp; omega); simpa using this), rfl⟩
theorem part_any (l : List Nat) (w : World) (hd : Digs l) (hl : l.length ≤ 1000000) :
    Calls Try.prog 20 #[.string (dStr (intg l)), .int .i64 l.length] w fun e w' => e = .returned (.string (dStr l)) ∧ w = w' := by
  by_cases h : ∀ j, j < l.length → l.getD j 0 = 0
  · have e0 := intg_none h
    have el : l = List.replicate l.length 0 := by
      apply List.ext_getElem
      · simp
      · intro i h1 h2
        have := h i h1
        rw [getD_at _ h1] at this
        rw [List.getElem_replicate]
        exact this
    have := part_loop ⟨#[48]⟩ [] l.length w (by simp) hl (.inr ⟨rfl, rfl⟩)
    rw [← e0]
    refine this.mono ?_
    rintro e w' ⟨rfl, rfl⟩
    refine ⟨?_, rfl⟩
    rw [List.append_nil, List.length_nil, Nat.sub_zero, ← el]
  · obtain ⟨k, hk, h0, hne⟩ : ∃ k, k < l.length ∧ (∀ j, j < k → l.getD j 0 = 0) ∧ l.getD k 0 ≠ 0 := by
      have ex : ∃ k, k < l.length ∧ l.getD k 0 ≠ 0 := by
        apply Classical.byContradiction
        intro hn
        exact h fun j hj => Classical.byContradiction fun hj0 => hn ⟨j, hj, hj0⟩
      have key : ∀ n, (∃ k, k < n ∧ k < l.length ∧ l.getD k 0 ≠ 0) → ∃ k, k < l.length ∧ (∀ j, j < k → l.getD j 0 = 0) ∧ l.getD k 0 ≠ 0 := by
        intro n
        induction n with
        | zero => rintro ⟨k, hk, -⟩; omega
        | succ n ih =>
          rintro ⟨k, hk, hkl, hk0⟩
          by_cases hs : ∃ k, k < n ∧ k < l.length ∧ l.getD k 0 ≠ 0
          · exact ih hs
          · refine ⟨k, hkl, fun j hj => Classical.byContradiction fun hj0 => hs ⟨j, by omega, by omega, hj0⟩, hk0⟩
      obtain ⟨k, hk, hk0⟩ := ex
      exact key (k + 1) ⟨k, by omega, hk, hk0⟩
    have ei := intg_skip hd k hk h0 hne
    have el : List.replicate k 0 ++ intg l = l := by
      rw [← ei]
      apply List.ext_getElem
      · simp; omega
      · intro i h1 h2
        by_cases hi : i < k
        · have := h0 i hi
          rw [getD_at _ h2] at this
          rw [List.getElem_append_left (by simpa using hi), List.getElem_replicate]
          exact this.symm
        · rw [List.getElem_append_right (by simp; omega), List.getElem_drop]
          congr 1
          simp
          omega
    have hlen : k + (intg l).length = l.length := by have := congrArg List.length el; simpa using this
    have q0 : ((dStr (intg l)).toList == (⟨#[48]⟩ : ByteArray).toList) = false := toList_ne fun e => by
      have e2 : intg l = [0] := dStr_inj (digs_digs _) (fun d hd => by simp at hd; omega) e
      rw [← ei, List.drop_eq_getElem_cons hk] at e2
      rw [getD_at _ hk] at hne
      simp only [List.cons.injEq] at e2
      exact hne e2.1
    have q : ((dStr (intg l)).toList == [48]) = false := by
      rw [Lib.toList_data (⟨#[48]⟩ : ByteArray)] at q0
      exact q0
    have := part_loop (dStr (intg l)) (intg l) l.length w (by omega) hl (.inl ⟨rfl, q⟩)
    refine this.mono ?_
    rintro e w' ⟨rfl, rfl⟩
    refine ⟨?_, rfl⟩
    rw [show l.length - (intg l).length = k by omega, el]
end Go.Proofs.Ytcdmanhhddcmcaa
