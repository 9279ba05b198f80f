/- Names of arguments: numbers. -/
import Derived.Test.YtgakophdgjepmaaDoorLeaf
import Derived.Lib.Hide
namespace Go.Proofs.YtgakophdgjepmaaDoor
open Go.RowKit

/-- All bytes are digits. -/
def digsB (s : ByteArray) : Bool := decide (∀ k, k < s.size → 48 ≤ byteN s k ∧ byteN s k ≤ 57)
theorem digsB_no {s : ByteArray} {k : Nat} (h : k < s.size) (hd : digB (byteN s k : Int) = false) : digsB s = false := by
  unfold digsB
  rw [decide_eq_false_iff_not]
  intro H
  have := H k h
  simp only [digB, decide_eq_false_iff_not] at hd
  omega
theorem digB_nat {n : Nat} (h : digB (n : Int) = true) : 48 ≤ n ∧ n ≤ 57 := by
  have := of_decide_eq_true h
  omega
theorem digsB_yes {s : ByteArray} {k : Nat} (h : ¬ k < s.size) (hd : ∀ j, j < k → digB (byteN s j : Int) = true) : digsB s = true :=
  decide_eq_true fun j hj => digB_nat (hd j (by omega))

/-- Greater than the greatest number, as texts stand. -/
def gtB (s : ByteArray) : Bool := !Op.bytesLess s.toList [50, 49, 52, 55, 52, 56, 51, 54, 52, 55] && !(s.toList == [50, 49, 52, 55, 52, 56, 51, 54, 52, 55])
/-- Digits that begin no longer number with 0. -/
def decB (s : ByteArray) : Bool := digsB s && decide (s.size ≠ 0 ∧ (byteN s 0 = 48 → s.size ≤ 1))
def bigB (s : ByteArray) : Bool := decide (10 < s.size) || (decide (s.size = 10) && gtB s)
def numB (s : ByteArray) : Bool := decB s && !bigB s

theorem toList_nil {s : ByteArray} : s.toList = [] ↔ s.size = 0 := by
  rw [Lib.toList_data]
  constructor
  · intro h
    have := congrArg List.length h
    simpa using this
  · intro h
    exact List.eq_nil_of_length_eq_zero (by simpa using h)
theorem toList_zero {s : ByteArray} (h0 : 0 < s.size) (h : byteN s 0 = 48) : (s.toList == [48]) = decide (s.size ≤ 1) := by
  rw [Lib.toList_data, Bool.eq_iff_iff, beq_iff_eq, decide_eq_true_eq]
  constructor
  · intro e
    have := congrArg List.length e
    simp at this
    omega
  · intro e
    rw [byteN_eq s 0 48 (by omega) h0] at h
    have hl : s.data.toList.length = 1 := by simp; omega
    match hz : s.data.toList, hl with
    | [x], _ =>
      rw [hz] at h
      simp at h
      rw [h]

set_option maxRecDepth 100000 in
theorem isNumber_off (s : ByteArray) (w : World) (h : s.size = 0 ∨ 10 < s.size) :
    Calls Tryd.prog 36 #[.string s] w fun e w' => e = .returned (.bool false) ∧ w = w' := by
  by_cases h0 : s.size = 0
  · have h1 : s.toList = [] := toList_nil.2 h0
    go_enter Tryd.func36, Tryd.ntmps36
    go_wp2
    all_goals (go_ret; exact ⟨rfl, rfl⟩)
  · have h10 : 10 < s.size := by omega
    go_enter Tryd.func36, Tryd.ntmps36
    go_wp2
    all_goals (go_ret; exact ⟨rfl, rfl⟩)

set_option maxHeartbeats 1000000 in
set_option maxRecDepth 100000 in
theorem isNumber_on (s : ByteArray) (w : World) (hs : s.size ≠ 0) (h10 : s.size ≤ 10) :
    Calls Tryd.prog 36 #[.string s] w fun e w' => e = .returned (.bool (numB s)) ∧ w = w' := by
  have n1 : ¬ s.toList = [] := fun h => hs (toList_nil.1 h)
  have n2 : s.toList.isEmpty = false := by simpa using n1
  have n3 : decide ((10 : Int) < (s.size : Int)) = false := decide_eq_false (by omega)
  have hp : 0 < s.size := by omega
  have Z := Lib.hid (byteN_at s 0 hp)
  clear hs
  go_enter Tryd.func36, Tryd.ntmps36
  go_wp2
  go_loop [13] (fun i => ∃ k : Nat, i = .int .i64 k ∧ k ≤ s.size ∧ ∀ j, j < k → digB (byteN s j : Int) = true) (fun i => s.size - (intOf i).toNat)
  case atStart => exact ⟨0, rfl, by omega, fun j hj => by omega⟩
  case round =>
    obtain ⟨k, rfl, hk, hD⟩ := hrel
    have HD := Lib.hid hD
    clear hD
    by_cases hlt : k < s.size
    · have HK := Lib.hid (byteN_at s k hlt)
      by_cases hd : digB (s[k].toNat : Int) = true
      · go_wp2_with (go_at_call 54; refine (isDigit_any _ _).mono ?_; rintro e w' ⟨rfl, rfl⟩)
        go_round
        case rel =>
          refine ⟨k + 1, by go_num, by omega, fun j hj => ?_⟩
          by_cases e : j = k
          · subst e; rw [← HK.out]; exact hd
          · exact HD.out j (by omega)
        case measure => simp [intOf]; omega
      · have hd' : digB (s[k].toNat : Int) = false := by simpa using hd
        clear hd
        go_wp2_with (go_at_call 54; refine (isDigit_any _ _).mono ?_; rintro e w' ⟨rfl, rfl⟩)
        go_ret
        exact ⟨ret_bool (by unfold numB decB; rw [digsB_no hlt (by rw [← HK.out]; exact hd')]; rfl), rfl⟩
    · have hall := Lib.hid (digsB_yes hlt HD.out)
      by_cases h48 : s[0].toNat = 48
      · have h48' : ((s[0].toNat : Int) == 48) = true := by simp; omega
        have H := Lib.hid h48
        clear h48
        go_wp2
        go_ret
        refine ⟨ret_bool ?_, rfl⟩
        have e := H.out
        rw [Z.out] at e
        unfold numB decB bigB
        rw [toList_zero hp e, hall.out, Bool.eq_iff_iff]
        simp only [Bool.true_and, decide_eq_true_eq, Bool.and_eq_true, Bool.not_eq_true', Bool.or_eq_false_iff, decide_eq_false_iff_not, Bool.and_eq_false_iff]
        omega
      · have h48' : ((s[0].toNat : Int) == 48) = false := by simp; omega
        have H := Lib.hid h48
        clear h48
        by_cases hl : s.size < 10
        · go_wp2
          go_ret
          refine ⟨ret_bool ?_, rfl⟩
          have e := H.out
          rw [Z.out] at e
          unfold numB decB bigB
          rw [hall.out]
          have a : decide (10 < s.size) = false := decide_eq_false (by omega)
          have b : decide (s.size = 10) = false := decide_eq_false (by omega)
          have c : decide (s.size ≠ 0 ∧ (byteN s 0 = 48 → s.size ≤ 1)) = true := decide_eq_true ⟨by omega, fun h => absurd h e⟩
          rw [a, b, c]
          simp
        · go_wp2
          go_ret
          refine ⟨ret_bool ?_, rfl⟩
          have e := H.out
          rw [Z.out] at e
          unfold numB decB bigB gtB
          rw [hall.out]
          have a : decide (10 < s.size) = false := decide_eq_false (by omega)
          have b : decide (s.size = 10) = true := decide_eq_true (by omega)
          have c : decide (s.size ≠ 0 ∧ (byteN s 0 = 48 → s.size ≤ 1)) = true := decide_eq_true ⟨by omega, fun h => absurd h e⟩
          rw [a, b, c]
          simp
          intro hh
          omega
theorem isNumber_any (s : ByteArray) (w : World) :
    Calls Tryd.prog 36 #[.string s] w fun e w' => e = .returned (.bool (numB s)) ∧ w = w' := by
  by_cases h : s.size = 0 ∨ 10 < s.size
  · refine (isNumber_off s w h).mono ?_
    rintro e w' ⟨rfl, rfl⟩
    refine ⟨ret_bool ?_, rfl⟩
    unfold numB decB bigB
    rcases h with h | h
    · simp [h]
    · simp [h]
  · exact isNumber_on s w (by omega) (by omega)

set_option maxHeartbeats 1000000 in
set_option maxRecDepth 100000 in
theorem refDigits_any (s : ByteArray) (w : World) (hs : s.size ≤ maxLen) :
    Calls Tryd.prog 38 #[.string s] w fun e w' => e = .returned (.bool (decB s)) ∧ w = w' := by
  unfold maxLen at hs
  by_cases h0 : s.size = 0
  · have h1 : s.toList = [] := toList_nil.2 h0
    have H0 := Lib.hid h0
    clear h0
    go_enter Tryd.func38, Tryd.ntmps38
    go_wp2
    all_goals (go_ret; exact ⟨ret_bool (by unfold decB; simp [H0.out]), rfl⟩)
  have n1 : ¬ s.toList = [] := fun h => h0 (toList_nil.1 h)
  have n2 : s.toList.isEmpty = false := by simpa using n1
  have hp : 0 < s.size := by omega
  have Z := Lib.hid (byteN_at s 0 hp)
  clear h0
  by_cases h48 : s[0].toNat = 48
  · have h48' : ((s[0].toNat : Int) == 48) = true := by simp; omega
    have H := Lib.hid h48
    clear h48
    by_cases h1 : 1 < s.size
    · go_enter Tryd.func38, Tryd.ntmps38
      go_wp2
      all_goals (go_ret; exact ⟨ret_bool (by
        have e := H.out
        rw [Z.out] at e
        have c : decide (s.size ≠ 0 ∧ (byteN s 0 = 48 → s.size ≤ 1)) = false := decide_eq_false (by omega)
        unfold decB; rw [c]; simp), rfl⟩)
    · have q : decide ((1 : Int) < (s.size : Int)) = false := decide_eq_false (by omega)
      go_enter Tryd.func38, Tryd.ntmps38
      go_wp2
      go_loop [3] (fun i => ∃ k : Nat, i = .int .i64 k ∧ k ≤ s.size ∧ ∀ j, j < k → digB (byteN s j : Int) = true) (fun i => s.size - (intOf i).toNat)
      case atStart => exact ⟨0, rfl, by omega, fun j hj => by omega⟩
      case round =>
        obtain ⟨k, rfl, hk, hD⟩ := hrel
        have HD := Lib.hid hD
        clear hD
        by_cases hlt : k < s.size
        · have HK := Lib.hid (byteN_at s k hlt)
          by_cases hd : digB (s[k].toNat : Int) = true
          · go_wp2_with (go_at_call 39; refine (refDigit_any _ _).mono ?_; rintro e w' ⟨rfl, rfl⟩)
            go_round
            case rel =>
              refine ⟨k + 1, by go_num, by omega, fun j hj => ?_⟩
              by_cases e : j = k
              · subst e; rw [← HK.out]; exact hd
              · exact HD.out j (by omega)
            case measure => simp [intOf]; omega
          · have hd' : digB (s[k].toNat : Int) = false := by simpa using hd
            clear hd
            go_wp2_with (go_at_call 39; refine (refDigit_any _ _).mono ?_; rintro e w' ⟨rfl, rfl⟩)
            go_ret
            exact ⟨ret_bool (by unfold decB; rw [digsB_no hlt (by rw [← HK.out]; exact hd')]; rfl), rfl⟩
        · have hall := Lib.hid (digsB_yes hlt HD.out)
          go_wp2
          go_ret
          refine ⟨ret_bool ?_, rfl⟩
          have e := H.out
          rw [Z.out] at e
          have c : decide (s.size ≠ 0 ∧ (byteN s 0 = 48 → s.size ≤ 1)) = true := decide_eq_true ⟨by omega, fun _ => by omega⟩
          unfold decB
          rw [hall.out, c]
          rfl
  · have h48' : ((s[0].toNat : Int) == 48) = false := by simp; omega
    have H := Lib.hid h48
    clear h48
    go_enter Tryd.func38, Tryd.ntmps38
    go_wp2
    go_loop [3] (fun i => ∃ k : Nat, i = .int .i64 k ∧ k ≤ s.size ∧ ∀ j, j < k → digB (byteN s j : Int) = true) (fun i => s.size - (intOf i).toNat)
    case atStart => exact ⟨0, rfl, by omega, fun j hj => by omega⟩
    case round =>
      obtain ⟨k, rfl, hk, hD⟩ := hrel
      have HD := Lib.hid hD
      clear hD
      by_cases hlt : k < s.size
      · have HK := Lib.hid (byteN_at s k hlt)
        by_cases hd : digB (s[k].toNat : Int) = true
        · go_wp2_with (go_at_call 39; refine (refDigit_any _ _).mono ?_; rintro e w' ⟨rfl, rfl⟩)
          go_round
          case rel =>
            refine ⟨k + 1, by go_num, by omega, fun j hj => ?_⟩
            by_cases e : j = k
            · subst e; rw [← HK.out]; exact hd
            · exact HD.out j (by omega)
          case measure => simp [intOf]; omega
        · have hd' : digB (s[k].toNat : Int) = false := by simpa using hd
          clear hd
          go_wp2_with (go_at_call 39; refine (refDigit_any _ _).mono ?_; rintro e w' ⟨rfl, rfl⟩)
          go_ret
          exact ⟨ret_bool (by unfold decB; rw [digsB_no hlt (by rw [← HK.out]; exact hd')]; rfl), rfl⟩
      · have hall := Lib.hid (digsB_yes hlt HD.out)
        go_wp2
        go_ret
        refine ⟨ret_bool ?_, rfl⟩
        have e := H.out
        rw [Z.out] at e
        have c : decide (s.size ≠ 0 ∧ (byteN s 0 = 48 → s.size ≤ 1)) = true := decide_eq_true ⟨by omega, fun h => absurd h e⟩
        unfold decB
        rw [hall.out, c]
        rfl
end Go.Proofs.YtgakophdgjepmaaDoor
