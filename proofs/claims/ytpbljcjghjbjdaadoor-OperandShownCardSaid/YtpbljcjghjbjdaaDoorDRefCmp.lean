/- Cmp of the reference. -/
import Derived.Test.YtpbljcjghjbjdaaDoorDRef2
namespace Go.Proofs.YtpbljcjghjbjdaaDoor
open Go.RowKit

theorem less_digits : ∀ (a b : List Nat), Digs a → Digs b → a.length = b.length → Op.bytesLess (dB a) (dB b) = decide (dVal a < dVal b)
  | [], [], _, _, _ => by rw [show Op.bytesLess (dB []) (dB []) = false from rfl]; exact (decide_eq_false (by omega)).symm
  | [], _ :: _, _, _, h => by simp at h
  | _ :: _, [], _, _, h => by simp at h
  | x :: a, y :: b, ha, hb, h => by
    have hl : a.length = b.length := by simpa using h
    have ih := less_digits a b ha.tail hb.tail hl
    have bx := byte_nat ha.head
    have by' := byte_nat hb.head
    show (decide ((48 + x).toUInt8 < (48 + y).toUInt8) || ((48 + x).toUInt8 == (48 + y).toUInt8 && Op.bytesLess (dB a) (dB b))) = _
    rw [ih]
    have e1 : ((48 + x).toUInt8 < (48 + y).toUInt8) ↔ x < y := by rw [UInt8.lt_iff_toNat_lt, bx, by']; omega
    have e2 : (48 + x).toUInt8 = (48 + y).toUInt8 ↔ x = y := by
      constructor
      · intro e
        have := congrArg UInt8.toNat e
        rw [bx, by'] at this
        omega
      · rintro rfl; rfl
    rcases Nat.lt_trichotomy x y with hxy | hxy | hxy
    · rw [decide_eq_true (e1.2 hxy), Bool.true_or]
      exact (decide_eq_true (dVal_lt_of (p := []) hxy ha.tail hl)).symm
    · subst hxy
      rw [decide_eq_false (fun q => Nat.lt_irrefl _ (e1.1 q)), Bool.false_or, beq_self_eq_true, Bool.true_and, dVal_cons, dVal_cons, hl]
      rw [Bool.eq_iff_iff, decide_eq_true_eq, decide_eq_true_eq]
      omega
    · rw [decide_eq_false (fun q => by have := e1.1 q; omega), Bool.false_or, beq_eq_false_iff_ne.2 (fun q => by have := e2.1 q; omega), Bool.false_and]
      have := dVal_lt_of (p := []) hxy hb.tail hl.symm
      simp only [List.nil_append] at this
      exact (decide_eq_false (by omega)).symm

set_option maxHeartbeats 1000000 in
set_option maxRecDepth 100000 in
theorem refCmp_any (x y : Nat) (w : World) (hx : (digs x).length ≤ 1000000) (hy : (digs y).length ≤ 1000000) :
    Calls Tryd.prog 44 #[.string (dStr (digs x)), .string (dStr (digs y))] w fun r w' => r = .returned (.int .i64 (cmpN x y)) ∧ w = w' := by
  obtain ⟨S, hS⟩ : ∃ S, S = dStr (digs x) := ⟨_, rfl⟩
  obtain ⟨T, hT⟩ : ∃ T, T = dStr (digs y) := ⟨_, rfl⟩
  have zs : S.size = (digs x).length := by rw [hS, dStr_size]
  have zt : T.size = (digs y).length := by rw [hT, dStr_size]
  have hl1 : S.size < T.size → x < y := fun h => digs_len_lt (by omega)
  have hl2 : T.size < S.size → y < x := fun h => digs_len_lt (by omega)
  have hl3 : S.size = T.size → Op.bytesLess S.toList T.toList = decide (x < y) := fun h => by
    have := less_digits (digs x) (digs y) (digs_digs _) (digs_digs _) (by omega)
    rw [dVal_digs, dVal_digs] at this
    rw [Lib.toList_data, Lib.toList_data, hS, hT, dStr_toList, dStr_toList]
    exact this
  have hq : (S.toList == T.toList) = decide (x = y) := by
    rw [Bool.eq_iff_iff, beq_iff_eq, decide_eq_true_eq, Lib.toList_data, Lib.toList_data, hS, hT]
    constructor
    · intro h
      exact digs_inj (dStr_inj (digs_digs _) (digs_digs _) (by
        cases h1 : dStr (digs x); cases h2 : dStr (digs y)
        rw [h1, h2] at h
        congr 1
        exact Array.toList_inj.1 h))
    · rintro rfl; rfl
  have hs1 : S.size ≤ 1000000 := by omega
  have ht1 : T.size ≤ 1000000 := by omega
  rw [← hS, ← hT]
  clear hS hT zs zt hx hy
  rcases Nat.lt_trichotomy S.size T.size with h | h | h
  · have HR := Lib.hid (show (-1 : Int) = cmpN x y from (if_pos (hl1 h)).symm)
    clear hl1 hl2 hl3 hq
    go_enter Tryd.func44, Tryd.ntmps44
    go_wp2
    go_ret
    exact ⟨ret_i HR.out, rfl⟩
  · have q3 := hl3 h
    have qe : ((S.size : Int) == (T.size : Int)) = true := by rw [h]; exact beq_self_eq_true _
    have qe2 : (S.size == T.size) = true := by rw [h]; exact beq_self_eq_true _
    have ql : decide ((S.size : Int) < (T.size : Int)) = false := decide_eq_false (by omega)
    have ql2 : ¬ S.size < T.size := by omega
    clear hl1 hl2 hl3
    rcases Nat.lt_trichotomy x y with hxy | hxy | hxy
    · rw [decide_eq_true hxy] at q3
      have HR := Lib.hid (show (-1 : Int) = cmpN x y from (if_pos hxy).symm)
      have H := Lib.hid h
      clear hxy hq h
      go_enter Tryd.func44, Tryd.ntmps44
      go_wp2
      go_ret
      exact ⟨ret_i HR.out, rfl⟩
    · rw [decide_eq_false (by omega)] at q3
      rw [decide_eq_true hxy] at hq
      have HR := Lib.hid (show (0 : Int) = cmpN x y by unfold cmpN; rw [if_neg (by omega), if_pos hxy])
      have H := Lib.hid h
      clear hxy h
      go_enter Tryd.func44, Tryd.ntmps44
      go_wp2
      go_ret
      exact ⟨ret_i HR.out, rfl⟩
    · rw [decide_eq_false (by omega)] at q3
      rw [decide_eq_false (by omega)] at hq
      have HR := Lib.hid (show (1 : Int) = cmpN x y by unfold cmpN; rw [if_neg (by omega), if_neg (by omega)])
      have H := Lib.hid h
      clear hxy h
      go_enter Tryd.func44, Tryd.ntmps44
      go_wp2
      go_ret
      exact ⟨ret_i HR.out, rfl⟩
  · have hyx := hl2 h
    have qe : ((S.size : Int) == (T.size : Int)) = false := by rw [beq_eq_false_iff_ne]; omega
    have qe2 : (S.size == T.size) = false := by rw [beq_eq_false_iff_ne]; omega
    have ql : decide ((S.size : Int) < (T.size : Int)) = false := decide_eq_false (by omega)
    have ql2 : ¬ S.size < T.size := by omega
    rw [decide_eq_false (by omega)] at hq
    have HR := Lib.hid (show (1 : Int) = cmpN x y by unfold cmpN; rw [if_neg (by omega), if_neg (by omega)])
    clear hl1 hl2 hl3 hyx
    go_enter Tryd.func44, Tryd.ntmps44
    go_wp2
    go_ret
    exact ⟨ret_i HR.out, rfl⟩
end Go.Proofs.YtpbljcjghjbjdaaDoor
