/- The reference's Ident tells identZ. -/
import Derived.Test.YtgakophdgjepmaaDoorName
import Derived.Test.YtgakophdgjepmaaDoorStep
namespace Go.Proofs.YtgakophdgjepmaaDoor
open Go.RowKit

theorem stepZ_stray {s : ByteArray} {i : Nat} (h : strayB s i = true) : stepZ s i = -1 := by unfold stepZ; rw [if_pos h]
theorem stepZ_rune {s : ByteArray} {i : Nat} (h : strayB s i = false) : stepZ s i = ((Utf8.decode s i).1 : Int) := by unfold stepZ; rw [if_neg (by simp [h])]
/-- Step at a stray byte, and at a rune. -/
theorem step_stray (s : ByteArray) (i : Nat) (w : World) (hi : i < s.size) (hs : s.size ≤ maxLen) (h : strayB s i = true) :
    Calls Tryd.prog 32 #[.string s, .int .i64 i] w fun e w' => e = .returned (.tuple #[.int .i64 (-1), .int .i64 1]) ∧ w = w' := by
  refine (step_any s i w hi hs).mono ?_
  rintro e w' ⟨rfl, rfl⟩
  have h2 := (of_decide_eq_true h).2
  exact ⟨by unfold stepped; rw [stepZ_stray h, h2]; rfl, rfl⟩
theorem step_rune (s : ByteArray) (i : Nat) (w : World) (hi : i < s.size) (hs : s.size ≤ maxLen) (h : strayB s i = false) :
    Calls Tryd.prog 32 #[.string s, .int .i64 i] w fun e w' => e = .returned (.tuple #[.int .i64 ((Utf8.decode s i).1 : Nat), .int .i64 (Utf8.decode s i).2]) ∧ w = w' := by
  refine (step_any s i w hi hs).mono ?_
  rintro e w' ⟨rfl, rfl⟩
  exact ⟨by unfold stepped; rw [stepZ_rune h], rfl⟩

/-- Of digits: a number, or one too great. -/
def bigZ (s : ByteArray) : Int := if bigB s then 0 else 2
theorem bigZ_yes {s : ByteArray} (h : bigB s = true) : bigZ s = 0 := if_pos h
theorem bigZ_no {s : ByteArray} (h : bigB s = false) : bigZ s = 2 := if_neg (by simp [h])

set_option maxHeartbeats 1000000 in
set_option maxRecDepth 100000 in
theorem refIdent_num (s : ByteArray) (w : World) (hs : s.size ≤ maxLen) (hd : decB s = true) :
    Calls Tryd.prog 22 #[.string s] w fun e w' => e = .returned (.int .i64 (bigZ s)) ∧ w = w' := by
  by_cases h10 : 10 < s.size
  · have HB : Hid (bigB s = true) := by unfold bigB; rw [decide_eq_true h10]; rfl
    go_enter Tryd.func22, Tryd.ntmps22
    go_wp2_with (go_at_call 38; refine (refDigits_any _ _ hs).mono ?_; rintro e w' ⟨rfl, rfl⟩)
    go_ret
    exact ⟨ret_int (bigZ_yes HB.out).symm, rfl⟩
  have n3 : decide ((10 : Int) < (s.size : Int)) = false := decide_eq_false (by omega)
  by_cases h1 : s.size = 10
  · have h1' : ((s.size : Int) == 10) = true := by simp; omega
    have HG : Hid (bigB s = gtB s) := by unfold bigB; rw [decide_eq_false h10, decide_eq_true h1]; rfl
    clear h1 h10
    by_cases hg : gtB s = true
    · have HG2 := Lib.hid hg
      unfold gtB at hg
      simp only [Bool.and_eq_true, Bool.not_eq_true'] at hg
      obtain ⟨g1, g2⟩ := hg
      go_enter Tryd.func22, Tryd.ntmps22
      go_wp2_with (go_at_call 38; refine (refDigits_any _ _ hs).mono ?_; rintro e w' ⟨rfl, rfl⟩)
      all_goals (go_ret; exact ⟨ret_int (bigZ_yes (HG.out.trans HG2.out)).symm, rfl⟩)
    · have HG2 := Lib.hid hg
      have HG3 : (!Op.bytesLess s.toList [50, 49, 52, 55, 52, 56, 51, 54, 52, 55] && !(s.toList == [50, 49, 52, 55, 52, 56, 51, 54, 52, 55])) = false := by
        unfold gtB at hg
        simpa using hg
      clear hg
      go_enter Tryd.func22, Tryd.ntmps22
      go_wp2_with (go_at_call 38; refine (refDigits_any _ _ hs).mono ?_; rintro e w' ⟨rfl, rfl⟩)
      all_goals (go_ret; exact ⟨ret_int (bigZ_no (HG.out.trans (by simpa using HG2.out))).symm, rfl⟩)
  · have h1' : ((s.size : Int) == 10) = false := by simp; omega
    have HB : Hid (bigB s = false) := by unfold bigB; rw [decide_eq_false h10, decide_eq_false h1]; rfl
    clear h1 h10
    go_enter Tryd.func22, Tryd.ntmps22
    go_wp2_with (go_at_call 38; refine (refDigits_any _ _ hs).mono ?_; rintro e w' ⟨rfl, rfl⟩)
    go_ret
    exact ⟨ret_int (bigZ_no HB.out).symm, rfl⟩

set_option maxHeartbeats 2000000 in
set_option maxRecDepth 100000 in
theorem refIdent_off (s : ByteArray) (w : World) (hs : s.size ≤ maxLen) (hd : decB s = false) (h : s.size = 0 ∨ 64 < s.size ∨ ∃ h0 : 0 < s.size, digB (s[0].toNat : Int) = true) :
    Calls Tryd.prog 22 #[.string s] w fun e w' => e = .returned (.int .i64 0) ∧ w = w' := by
  have HM := Lib.hid hs
  clear hs
  by_cases h0 : s.size = 0
  · have h1 : s.toList = [] := toList_nil.2 h0
    go_enter Tryd.func22, Tryd.ntmps22
    go_wp2_with (go_at_call 38; refine (refDigits_any _ _ HM.out).mono ?_; rintro e w' ⟨rfl, rfl⟩)
    all_goals (go_ret; exact ⟨rfl, rfl⟩)
  have n1 : ¬ s.toList = [] := fun h => h0 (toList_nil.1 h)
  have n2 : s.toList.isEmpty = false := by simpa using n1
  by_cases h64 : 64 < s.size
  · go_enter Tryd.func22, Tryd.ntmps22
    go_wp2_with (go_at_call 38; refine (refDigits_any _ _ HM.out).mono ?_; rintro e w' ⟨rfl, rfl⟩)
    all_goals (go_ret; exact ⟨rfl, rfl⟩)
  have n3 : decide ((64 : Int) < (s.size : Int)) = false := decide_eq_false (by omega)
  obtain ⟨hp, hg⟩ : ∃ h0 : 0 < s.size, digB (s[0].toNat : Int) = true := by
    rcases h with h | h | h
    · omega
    · omega
    · exact h
  go_enter Tryd.func22, Tryd.ntmps22
  go_wp2_with (first | (go_at_call 38; refine (refDigits_any _ _ HM.out).mono ?_; rintro e w' ⟨rfl, rfl⟩) | (go_at_call 39; refine (refDigit_any _ _).mono ?_; rintro e w' ⟨rfl, rfl⟩))
  all_goals (go_ret; exact ⟨rfl, rfl⟩)

/-- Whether a name may be, as a number. -/
def okZ (s : ByteArray) : Int := if okFrom s 0 then 1 else 0
theorem okZ_yes {s : ByteArray} (h : okFrom s 0 = true) : okZ s = 1 := if_pos h
theorem okZ_no {s : ByteArray} (h : okFrom s 0 = false) : okZ s = 0 := if_neg (by simp [h])

set_option maxHeartbeats 2000000 in
set_option maxRecDepth 100000 in
theorem refIdent_on (s : ByteArray) (w : World) (hd : decB s = false) (h : 0 < s.size) (h64 : s.size ≤ 64) (hg : digB (s[0].toNat : Int) = false) :
    Calls Tryd.prog 22 #[.string s] w fun e w' => e = .returned (.int .i64 (okZ s)) ∧ Below w.heap.size w w' := by
  have HM : Hid (s.size ≤ maxLen) := by unfold maxLen; exact (by omega : s.size ≤ 2 ^ 63 - 1)
  have n1 : ¬ s.toList = [] := fun h => by have := toList_nil.1 h; omega
  have n2 : s.toList.isEmpty = false := by simpa using n1
  have n3 : decide ((64 : Int) < (s.size : Int)) = false := decide_eq_false (by omega)
  go_enter Tryd.func22, Tryd.ntmps22
  go_wp2_with (first | (go_at_call 38; refine (refDigits_any _ _ HM.out).mono ?_; rintro e w' ⟨rfl, rfl⟩) | (go_at_call 39; refine (refDigit_any _ _).mono ?_; rintro e w' ⟨rfl, rfl⟩))
  go_loopw [3] (fun i wr => ∃ pos : Nat, i = .int .i64 pos ∧ pos ≤ s.size ∧ Below w.heap.size w wr ∧ okFrom s pos = okFrom s 0) (fun i _ => s.size - (intOf i).toNat)
  case atStart => exact ⟨0, rfl, by omega, Below.refl _ _, rfl⟩
  case round =>
    obtain ⟨pos, rfl, hpl, hbw, hE⟩ := hrel
    have HE := Lib.hid hE
    clear hE
    have hsz := hbw.size
    by_cases hp : pos < s.size
    · have hwd := dec_pos s pos
      have hws := dec_le_size s pos hp
      have hmx := dec_max s pos
      by_cases hst : strayB s pos = true
      · go_wp2_with (first | (go_at_call 32; refine (step_stray s pos _ hp HM.out hst).mono ?_; rintro e w' ⟨rfl, rfl⟩))
        go_ret
        exact ⟨ret_int (okZ_no (by rw [← HE.out]; exact ok_bad hp (by unfold badB; rw [hst]; rfl))).symm, hbw⟩
      have hst' : strayB s pos = false := by simpa using hst
      clear hst
      by_cases hs2 : spB (Utf8.decode s pos).1 = true
      · go_wp2_with (first | (go_at_call 32; refine (step_rune s pos _ hp HM.out hst').mono ?_; rintro e w' ⟨rfl, rfl⟩) | (go_at_call 18; refine (refSpace_any _ _).mono ?_; rintro e w' ⟨rfl, rfl⟩))
        go_ret
        exact ⟨ret_int (okZ_no (by rw [← HE.out]; exact ok_bad hp (by unfold badB; rw [hst', hs2]; rfl))).symm, hbw⟩
      have hs2' : spB (Utf8.decode s pos).1 = false := by simpa using hs2
      clear hs2
      by_cases hs3 : synB (Utf8.decode s pos).1 = true
      · go_wp2_with (first | (go_at_call 32; refine (step_rune s pos _ hp HM.out hst').mono ?_; rintro e w' ⟨rfl, rfl⟩) | (go_at_call 18; refine (refSpace_any _ _).mono ?_; rintro e w' ⟨rfl, rfl⟩) | (go_at_call 20; refine (refSyntax_any _ _).mono ?_))
        rintro e W1 ⟨rfl, b1⟩
        go_wp2
        go_ret
        exact ⟨ret_int (okZ_no (by rw [← HE.out]; exact ok_bad hp (by unfold badB; rw [hst', hs2', hs3]; rfl))).symm, hbw.trans (b1.mono hsz)⟩
      have hs3' : synB (Utf8.decode s pos).1 = false := by simpa using hs3
      clear hs3
      go_wp2_with (first | (go_at_call 32; refine (step_rune s pos _ hp HM.out hst').mono ?_; rintro e w' ⟨rfl, rfl⟩) | (go_at_call 18; refine (refSpace_any _ _).mono ?_; rintro e w' ⟨rfl, rfl⟩) | (go_at_call 20; refine (refSyntax_any _ _).mono ?_))
      rintro e W1 ⟨rfl, b1⟩
      go_wp2
      go_roundw
      case rel => exact ⟨pos + (Utf8.decode s pos).2, by go_num, hws, hbw.trans (b1.mono hsz), by rw [← HE.out]; exact (ok_next hp (by unfold badB; rw [hst', hs2', hs3']; rfl)).symm⟩
      case measure => simp [intOf]; omega
    · go_wp2
      go_ret
      exact ⟨ret_int (okZ_yes (by rw [← HE.out]; exact ok_end hp)).symm, hbw⟩

theorem refIdent_any (s : ByteArray) (w : World) (hs : s.size ≤ maxLen) :
    Calls Tryd.prog 22 #[.string s] w fun e w' => e = .returned (.int .i64 (identZ s)) ∧ Below w.heap.size w w' := by
  by_cases hd : decB s = true
  · refine (refIdent_num s w hs hd).mono ?_
    rintro e w' ⟨rfl, rfl⟩
    refine ⟨ret_int ?_, Below.refl _ _⟩
    -- a decimal number begins with a digit: no name
    have h1 : 0 < s.size := by
      unfold decB at hd
      simp only [Bool.and_eq_true, decide_eq_true_eq] at hd
      omega
    have h2 : digB (byteN s 0) = true := by
      unfold decB digsB at hd
      simp only [Bool.and_eq_true, decide_eq_true_eq] at hd
      have := hd.1 0 h1
      exact decide_eq_true (by omega)
    have hn : nameB s = false := by unfold nameB; rw [h2]; simp
    unfold identZ numB bigZ
    rw [hd, hn]
    cases bigB s <;> rfl
  have hd' : decB s = false := by simpa using hd
  have hn : numB s = false := by unfold numB; rw [hd']; rfl
  by_cases h : s.size = 0 ∨ 64 < s.size ∨ ∃ h0 : 0 < s.size, digB (s[0].toNat : Int) = true
  · refine (refIdent_off s w hs hd' h).mono ?_
    rintro e w' ⟨rfl, rfl⟩
    refine ⟨ret_int ?_, Below.refl _ _⟩
    have hm : nameB s = false := by
      unfold nameB
      rcases h with h | h | ⟨h0, h⟩
      · rw [decide_eq_false (by omega)]; rfl
      · rw [decide_eq_false (by omega)]; rfl
      · rw [byteN_at s 0 h0] at h
        rw [h]
        simp
    unfold identZ
    rw [hn, hm]
    rfl
  · have h1 : 0 < s.size := by omega
    have h2 : digB (s[0].toNat : Int) = false := by
      by_cases c : digB (s[0].toNat : Int) = true
      · exact absurd (.inr (.inr ⟨h1, c⟩)) h
      · simpa using c
    refine (refIdent_on s w hd' h1 (by omega) h2).mono ?_
    rintro e w' ⟨rfl, hb⟩
    refine ⟨ret_int ?_, hb⟩
    rw [byteN_at s 0 h1] at h2
    unfold identZ nameB okZ
    rw [hn, h2, decide_eq_true (by omega)]
    rfl
end Go.Proofs.YtgakophdgjepmaaDoor
