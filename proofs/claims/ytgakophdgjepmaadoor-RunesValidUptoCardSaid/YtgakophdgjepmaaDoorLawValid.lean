/- RunesValid and RunesRepairs, for texts of at most 2^20 bytes. -/
import Derived.Test.YtgakophdgjepmaaDoorRunes
import Derived.Test.YtgakophdgjepmaaDoorAwake
namespace Go.Proofs.YtgakophdgjepmaaDoor
open Go.RowKit

/-- A string's bound out of the row's. -/
theorem beq_str (l : List UInt8) : ((⟨l.toArray⟩ : ByteArray).toList == (⟨l.toArray⟩ : ByteArray).toList) = true := beq_self_eq_true _

set_option maxHeartbeats 1000000 in
set_option maxRecDepth 100000 in
theorem valid_walk (s : ByteArray) (w : World) (hs : s.size ≤ maxLen) (hT : TabW w) (hb : s.size ≤ 1048576) :
    Calls Tryd.prog 3 #[.string s] w fun e w' => e = .returned (.bool true) ∧ Below w.heap.size w w' := by
  have HT := Lib.hid hT
  clear hT
  have q1 : (validFrom s 0 == validFrom s 0) = true := beq_self_eq_true _
  go_enter Tryd.func3, Tryd.ntmps3
  go_wp2_with (go_at_call 12; refine (valid_any _ _ hs).mono ?_)
  rintro e W1 ⟨rfl, b1⟩
  have HT1 := Lib.hid (HT.out.below b1 (Nat.le_refl _))
  have hs1 := b1.size
  go_wp2_with (first | (go_at_call 13; refine (refValid_any _ _ hs).mono ?_; rintro e w' ⟨rfl, rfl⟩) | (go_at_call 14; refine (repair_any _ _ (by omega)).mono ?_))
  rintro e W2 ⟨rfl, b2⟩
  have HT2 := Lib.hid (HT1.out.below b2 (Nat.le_refl _))
  have hs2 := b2.size
  go_wp2_with (go_at_call 15; refine (refRepair_any _ _ (by omega)).mono ?_)
  rintro e W3 ⟨rfl, b3⟩
  have HT3 := Lib.hid (HT2.out.below b3 (Nat.le_refl _))
  have hs3 := b3.size
  go_wp2_with (go_at_call 16; refine (awake_any _ HT3.out).mono ?_)
  rintro e W4 ⟨rfl, b4⟩
  go_wp2
  go_ret
  exact ⟨rfl, b1.trans ((b2.mono (by omega)).trans ((b3.mono (by omega)).trans (b4.mono (by omega))))⟩
theorem runes_len (s : ByteArray) : ∀ (n pos : Nat), s.size - pos ≤ n → pos ≤ s.size → (repairFrom s pos).length ≤ 4 * (s.size - pos) := by
  intro n
  induction n with
  | zero =>
    intro pos h _
    rw [repair_end (by omega)]
    simp
  | succ n ih =>
    intro pos h hp
    by_cases c : pos < s.size
    · have hd := dec_pos s pos
      have hl := dec_le_size s pos c
      have := ih (pos + (Utf8.decode s pos).2) (by omega) hl
      have h4 := enc_le ((Utf8.decode s pos).1 : Int)
      rw [repair_next c, List.length_append]
      omega
    · rw [repair_end c]
      simp
theorem repaired_le (s : ByteArray) : (repaired s).size ≤ 4 * s.size := by
  have := runes_len s s.size 0 (by omega) (by omega)
  unfold repaired
  show (repairFrom s 0).toArray.size ≤ _
  simp only [List.size_toArray]
  omega
theorem repair_ask (s : ByteArray) (w : World) (hs : s.size ≤ 35184372088832) :
    Calls Tryd.prog 14 #[.string s] w fun e w' => e = .returned (.string (repaired s)) ∧ Below w.heap.size w w' := repair_any s w hs
theorem repair_again (s : ByteArray) (w : World) (hs : (repaired s).size ≤ 35184372088832) :
    Calls Tryd.prog 14 #[.string (repaired s)] w fun e w' => e = .returned (.string (repaired s)) ∧ Below w.heap.size w w' := by
  refine (repair_any (repaired s) w hs).mono ?_
  rintro e w' ⟨rfl, hb⟩
  exact ⟨by rw [(repaired_valid s).2]; rfl, hb⟩

set_option maxHeartbeats 1000000 in
set_option maxRecDepth 100000 in
theorem repairs_walk (s : ByteArray) (w : World) (hs : s.size ≤ maxLen) (hT : TabW w) (hb : s.size ≤ 1048576) :
    Calls Tryd.prog 10 #[.string s] w fun e w' => e = .returned (.bool true) ∧ Below w.heap.size w w' := by
  have HT := Lib.hid hT
  clear hT
  have f1 := (repaired_valid s).1
  have f2 := repaired_same s
  have f3 := repaired_size s
  have f4 := repaired_le s
  have HM : Hid ((repaired s).size ≤ maxLen) := by unfold maxLen; exact (by omega : (repaired s).size ≤ 2 ^ 63 - 1)
  have q0 : ((repaired s).toList == (repaired s).toList) = true := beq_self_eq_true _
  have q1 : (validFrom s 0 == validFrom s 0) = true := beq_self_eq_true _
  go_enter Tryd.func10, Tryd.ntmps10
  go_wp2_with fail
  refine (repair_ask s _ (by omega)).mono ?_
  rintro e W1 ⟨rfl, b1⟩
  have HT1 := Lib.hid (HT.out.below b1 (Nat.le_refl _))
  have hs1 := b1.size
  go_wp2_with fail
  refine (valid_any (repaired s) _ HM.out).mono ?_
  rintro e W2 ⟨rfl, b2⟩
  have HT2 := Lib.hid (HT1.out.below b2 (Nat.le_refl _))
  have hs2 := b2.size
  go_wp2_with fail
  refine (valid_any s _ hs).mono ?_
  rintro e W3 ⟨rfl, b3⟩
  have HT3 := Lib.hid (HT2.out.below b3 (Nat.le_refl _))
  have hs3 := b3.size
  go_wp2_with fail
  refine (repair_again s _ (by omega)).mono ?_
  rintro e W4 ⟨rfl, b4⟩
  have HT4 := Lib.hid (HT3.out.below b4 (Nat.le_refl _))
  have hs4 := b4.size
  go_wp2_with fail
  refine (awake_any _ HT4.out).mono ?_
  rintro e W5 ⟨rfl, b5⟩
  go_wp2
  go_ret
  exact ⟨rfl, b1.trans ((b2.mono (by omega)).trans ((b3.mono (by omega)).trans ((b4.mono (by omega)).trans (b5.mono (by omega)))))⟩
end Go.Proofs.YtgakophdgjepmaaDoor
