/- Number of the reference. -/
import Derived.Test.YtcdmanhhddcmcaaOpG
import Derived.Test.YtcdmanhhddcmcaaDRef2
namespace Go.Proofs.Ytcdmanhhddcmcaa
open Go.RowKit
attribute [local go_sem ↓] Go.wp_at_zero Go.wp_at_succ

theorem intg_zero (m : List Nat) : intg (0 :: m) = intg m := by unfold intg; rw [dVal_cons, Nat.zero_mul, Nat.zero_add]
theorem intg_head {d : Nat} {m : List Nat} (hd : Digs (d :: m)) (h : d ≠ 0) : d :: m = intg (d :: m) := by
  have := intg_skip hd 0 (by simp) (fun j hj => by omega) (by simpa using h)
  simpa using this
theorem intg_nil : [0] = intg [] := intg_none (fun j hj => by simp at hj)
set_option maxHeartbeats 1000000 in
set_option maxRecDepth 100000 in
theorem refNumber_any (l : List Nat) (w : World) (hd : Digs l) (hl : l.length ≤ 1000000) :
    Calls Try.prog 77 #[.string (dStr l)] w fun e w' => e = .returned (.string (dStr (intg l))) ∧ w = w' := by
  have HDL := Lib.hid hd
  clear hd
  go_enter Try.func77, Try.ntmps77
  go_wp2
  go_loop [0] (fun v => ∃ m : List Nat, v = .string (dStr m) ∧ intg m = intg l ∧ Digs m ∧ m.length ≤ l.length) (fun v => sizeOfStr v)
  case atStart => exact ⟨l, rfl, rfl, HDL.out, Nat.le_refl _⟩
  case round =>
    obtain ⟨m, rfl, hm, hdm, hlm⟩ := hrel
    have HM := Lib.hid hm
    have HD := Lib.hid hdm
    have HLM := Lib.hid hlm
    clear hm hdm hlm
    match m, HM, HD, HLM with
    | [], HM, HD, HLM =>
      obtain ⟨S, hS⟩ : ∃ S, S = dStr [] := ⟨_, rfl⟩
      have hz : S.size = 0 := by rw [hS]; rfl
      have n1 : S.toList = [] := toList_nil.2 hz
      have n2 : S.toList.isEmpty = true := by rw [n1]; rfl
      have HR := Lib.hid (show dStr [0] = dStr (intg l) by rw [← HM.out, ← intg_nil])
      rw [← hS]
      clear hS
      go_wp2
      go_ret
      exact ⟨ret_s HR.out, rfl⟩
    | d :: m, HM, HD, HLM =>
      obtain ⟨S, hS⟩ : ∃ S, S = dStr (d :: m) := ⟨_, rfl⟩
      have hz : S.size = m.length + 1 := by rw [hS, dStr_size]; rfl
      have hks : 0 < S.size := by omega
      have hget : (S[0]'hks).toNat = 48 + d := by subst hS; exact dStr_get _ HD.out 0 hks
      have hlen : m.length ≤ 1000000 := by have := HLM.out; simp at this; omega
      have n1 : ¬ S.toList = [] := fun h => by have := toList_nil.1 h; omega
      have n2 : S.toList.isEmpty = false := by simpa using n1
      by_cases h0 : d = 0
      · have q48 : (((S[0]'hks).toNat : Int) == 48) = true := by rw [hget, h0]; rfl
        have HEX := Lib.hid (show S.extract 1 S.size = dStr m by rw [hS, dStr_size, dStr_ext, List.take_length]; rfl)
        have HZ := Lib.hid hz
        have HI := Lib.hid (show intg m = intg l by rw [← HM.out, h0, intg_zero])
        rw [← hS]
        clear hget h0 hS
        go_wp2
        go_round
        case rel => exact ⟨m, congrArg Value.string (by rw [← HZ.out]; exact HEX.out), HI.out, HD.out.tail, by have := HLM.out; simp at this ⊢; omega⟩
        case measure => simp [sizeOfStr, HZ.out]
      · have q48 : (((S[0]'hks).toNat : Int) == 48) = false := by rw [hget, beq_eq_false_iff_ne]; omega
        have HR := Lib.hid (show S = dStr (intg l) by rw [hS, ← HM.out, ← intg_head HD.out h0])
        rw [← hS]
        clear hget h0 hS
        go_wp2
        go_ret
        exact ⟨ret_s HR.out, rfl⟩
end Go.Proofs.Ytcdmanhhddcmcaa
