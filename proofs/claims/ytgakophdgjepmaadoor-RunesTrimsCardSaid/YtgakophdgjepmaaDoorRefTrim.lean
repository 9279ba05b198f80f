/- The reference's Trim tells trimmed; RunesTrims. -/
import Derived.Test.YtgakophdgjepmaaDoorTrim
import Derived.Test.YtgakophdgjepmaaDoorAwake
namespace Go.Proofs.YtgakophdgjepmaaDoor
open Go.RowKit

theorem ws_stray {s : ByteArray} {pos : Nat} (h : strayB s pos = true) : wsB s pos = false := by
  unfold wsB
  rw [(of_decide_eq_true h).1]
  rfl

set_option maxHeartbeats 1000000 in
set_option maxRecDepth 100000 in
theorem blank_any (s : ByteArray) (w : World) (hs : s.size ≤ maxLen) :
    Calls Tryd.prog 42 #[.string s, .int .i64 0] w fun e w' => e = .returned (.int .i64 (trimB s)) ∧ w = w' := by
  have HM := Lib.hid hs
  unfold maxLen at hs
  go_enter Tryd.func42, Tryd.ntmps42
  go_wp2
  go_loop [1] (fun i => ∃ pos : Nat, i = .int .i64 pos ∧ pos ≤ s.size ∧ firstFrom s pos = firstFrom s 0) (fun i => s.size - (intOf i).toNat)
  case atStart => exact ⟨0, rfl, by omega, rfl⟩
  case round =>
    obtain ⟨pos, rfl, hpl, hE⟩ := hrel
    have HE := Lib.hid hE
    clear hE
    by_cases hp : pos < s.size
    · have hwd := dec_pos s pos
      have hws := dec_le_size s pos hp
      have hmx := dec_max s pos
      by_cases hst : strayB s pos = true
      · go_wp2_with (first | (go_at_call 32; refine (step_stray s pos _ hp HM.out hst).mono ?_; rintro e w' ⟨rfl, rfl⟩))
        go_ret
        exact ⟨ret_int (by unfold trimB; rw [← HE.out, first_no hp (ws_stray hst)]), rfl⟩
      have hst' : strayB s pos = false := by simpa using hst
      clear hst
      by_cases hw : spB (Utf8.decode s pos).1 = true
      · go_wp2_with (first | (go_at_call 32; refine (step_rune s pos _ hp HM.out hst').mono ?_; rintro e w' ⟨rfl, rfl⟩) | (go_at_call 18; refine (refSpace_any _ _).mono ?_; rintro e w' ⟨rfl, rfl⟩))
        go_round
        case rel => exact ⟨pos + (Utf8.decode s pos).2, by go_num, hws, by rw [← HE.out]; exact (first_ws hp hw).symm⟩
        case measure => simp [intOf]; omega
      · have hw' : spB (Utf8.decode s pos).1 = false := by simpa using hw
        clear hw
        go_wp2_with (first | (go_at_call 32; refine (step_rune s pos _ hp HM.out hst').mono ?_; rintro e w' ⟨rfl, rfl⟩) | (go_at_call 18; refine (refSpace_any _ _).mono ?_; rintro e w' ⟨rfl, rfl⟩))
        go_ret
        exact ⟨ret_int (by unfold trimB; rw [← HE.out, first_no hp hw']), rfl⟩
    · go_wp2
      go_ret
      exact ⟨ret_int (by unfold trimB; rw [← HE.out, first_end hp]), rfl⟩

set_option maxHeartbeats 1000000 in
set_option maxRecDepth 100000 in
theorem refTrim_any (s : ByteArray) (w : World) (hs : s.size ≤ maxLen) :
    Calls Tryd.prog 24 #[.string s] w fun e w' => e = .returned (.string (trimmed s)) ∧ w = w' := by
  have HM := Lib.hid hs
  unfold maxLen at hs
  have hle := trimE_le s
  go_enter Tryd.func24, Tryd.ntmps24
  go_wp2_with (go_at_call 42; refine (blank_any s _ HM.out).mono ?_; rintro e w' ⟨rfl, rfl⟩)
  go_loop [4, 5] (fun e i => ∃ (pos en : Nat), i = .int .i64 pos ∧ e = .int .i64 en ∧ pos ≤ s.size ∧ trimB s ≤ en ∧ en ≤ pos ∧ lastFrom s pos en = trimE s) (fun _ i => s.size - (intOf i).toNat)
  case atStart => exact ⟨trimB s, trimB s, rfl, rfl, by omega, by omega, by omega, rfl⟩
  case round =>
    obtain ⟨pos, en, rfl, rfl, hpl, hlo, hen, hE⟩ := hrel
    have HE := Lib.hid hE
    clear hE
    by_cases hp : pos < s.size
    · have hwd := dec_pos s pos
      have hws := dec_le_size s pos hp
      have hmx := dec_max s pos
      by_cases hst : strayB s pos = true
      · have H1 := Lib.hid (of_decide_eq_true hst).2
        go_wp2_with (first | (go_at_call 32; refine (step_stray s pos _ hp HM.out hst).mono ?_; rintro e w' ⟨rfl, rfl⟩))
        go_round
        case rel => exact ⟨pos + 1, pos + 1, by go_num, by go_num, by omega, by omega, by omega, by rw [← HE.out, last_no hp (ws_stray hst), H1.out]⟩
        case measure => simp [intOf]; omega
      have hst' : strayB s pos = false := by simpa using hst
      clear hst
      by_cases hw : spB (Utf8.decode s pos).1 = true
      · go_wp2_with (first | (go_at_call 32; refine (step_rune s pos _ hp HM.out hst').mono ?_; rintro e w' ⟨rfl, rfl⟩) | (go_at_call 18; refine (refSpace_any _ _).mono ?_; rintro e w' ⟨rfl, rfl⟩))
        go_round
        case rel => exact ⟨pos + (Utf8.decode s pos).2, en, by go_num, rfl, hws, by omega, by omega, by rw [← HE.out]; exact (last_ws hp hw).symm⟩
        case measure => simp [intOf]; omega
      · have hw' : spB (Utf8.decode s pos).1 = false := by simpa using hw
        clear hw
        go_wp2_with (first | (go_at_call 32; refine (step_rune s pos _ hp HM.out hst').mono ?_; rintro e w' ⟨rfl, rfl⟩) | (go_at_call 18; refine (refSpace_any _ _).mono ?_; rintro e w' ⟨rfl, rfl⟩))
        go_round
        case rel => exact ⟨pos + (Utf8.decode s pos).2, pos + (Utf8.decode s pos).2, by go_num, by go_num, hws, by omega, by omega, by rw [← HE.out]; exact (last_no hp hw').symm⟩
        case measure => simp [intOf]; omega
    · have hL : en = trimE s := by rw [← HE.out, last_end hp]
      subst hL
      go_wp2
      go_ret
      exact ⟨rfl, rfl⟩

theorem trim_again (s : ByteArray) (w : World) (hs : s.size ≤ 140737488355328) :
    Calls Tryd.prog 23 #[.string (trimmed s)] w fun e w' => e = .returned (.string (trimmed s)) ∧ Below w.heap.size w w' := by
  have := trimE_le s
  refine (trim_any (trimmed s) w (by unfold trimmed; simp; omega)).mono ?_
  rintro e w' ⟨rfl, hb⟩
  exact ⟨ret_str (trimmed_again s), hb⟩

set_option maxHeartbeats 1000000 in
set_option maxRecDepth 100000 in
theorem trims_walk (s : ByteArray) (w : World) (hs : s.size ≤ maxLen) (hT : TabW w) (hr : s.size ≤ 140737488355328) :
    Calls Tryd.prog 6 #[.string s] w fun e w' => e = .returned (.bool true) ∧ Below w.heap.size w w' := by
  have HT := Lib.hid hT
  clear hT
  have q0 : ((trimmed s).toList == (trimmed s).toList) = true := beq_self_eq_true _
  go_enter Tryd.func6, Tryd.ntmps6
  go_wp2_with fail
  refine (trim_any s _ hr).mono ?_
  rintro e W1 ⟨rfl, b1⟩
  have HT1 := Lib.hid (HT.out.below b1 (Nat.le_refl _))
  have hs1 := b1.size
  go_wp2_with fail
  refine (refTrim_any s _ hs).mono ?_
  rintro e w' ⟨rfl, rfl⟩
  go_wp2_with fail
  refine (trim_again s _ hr).mono ?_
  rintro e W2 ⟨rfl, b2⟩
  have HT2 := Lib.hid (HT1.out.below b2 (Nat.le_refl _))
  have hs2 := b2.size
  go_wp2_with fail
  refine (awake_any _ HT2.out).mono ?_
  rintro e W3 ⟨rfl, b3⟩
  go_wp2
  go_ret
  exact ⟨rfl, b1.trans ((b2.mono (by omega)).trans (b3.mono (by omega)))⟩
end Go.Proofs.YtgakophdgjepmaaDoor
