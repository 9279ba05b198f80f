/- Small functions of layer 1: digits, white space, of both sides. -/
import Derived.Test.YtgakophdgjepmaaDoorShelf
import Derived.Test.YtgakophdgjepmaaDoorUtf
import Derived.WalkKit
import Derived.WalkSpells
import Derived.WalkLawsBesides
import Derived.BigCall
namespace Go.Proofs.YtgakophdgjepmaaDoor
open Go.RowKit

/-- One of 0 to 9. -/
def digB (c : Int) : Bool := decide (48 ≤ c ∧ c ≤ 57)

theorem isDigit_any (c : Int) (w : World) :
    Calls Tryd.prog 54 #[.int .u8 c] w fun e w' => e = .returned (.bool (digB c)) ∧ w = w' := by
  by_cases h1 : 48 ≤ c <;> by_cases h2 : c ≤ 57
  all_goals
    go_enter Tryd.func54, Tryd.ntmps54
    go_wp2
    go_ret
    exact ⟨by simp [digB, h1, h2], rfl⟩

theorem refDigit_any (c : Int) (w : World) :
    Calls Tryd.prog 39 #[.int .u8 c] w fun e w' => e = .returned (.bool (digB c)) ∧ w = w' := by
  by_cases h1 : 48 ≤ c <;> by_cases h2 : c ≤ 57
  all_goals
    go_enter Tryd.func39, Tryd.ntmps39
    go_wp2
    go_ret
    exact ⟨by simp [digB, h1, h2], rfl⟩

/-- White space. -/
def spB (r : Int) : Bool := decide ((9 ≤ r ∧ r ≤ 13) ∨ r = 32 ∨ r = 133 ∨ r = 8206 ∨ r = 8207 ∨ r = 8232 ∨ r = 8233)

theorem ret_bool {a b : Bool} (h : a = b) : Ending.returned (.bool a) = .returned (.bool b) := by rw [h]
theorem ret_int {k : IntKind} {a b : Int} (h : a = b) : Ending.returned (.int k a) = .returned (.int k b) := by rw [h]

theorem space_any (r : Int) (w : World) :
    Calls Tryd.prog 17 #[.int .i32 r] w fun e w' => e = .returned (.bool (spB r)) ∧ w = w' := by
  go_enter Tryd.func17, Tryd.ntmps17
  go_wp2
  all_goals
    go_ret
    refine ⟨ret_bool ?_, rfl⟩
    unfold spB
    simp_all
    try omega

theorem refSpace_any (r : Int) (w : World) :
    Calls Tryd.prog 18 #[.int .i32 r] w fun e w' => e = .returned (.bool (spB r)) ∧ w = w' := by
  go_enter Tryd.func18, Tryd.ntmps18
  go_wp2
  all_goals
    go_ret
    refine ⟨ret_bool ?_, rfl⟩
    unfold spB
    try simp only [beq_eq_false_iff_ne, beq_iff_eq, ne_eq] at *
    rw [Bool.eq_iff_iff]
    try simp only [Bool.or_eq_true, decide_eq_true_eq, beq_iff_eq, true_iff]
    omega

theorem stray_not (s : ByteArray) (i r : Int) (w : World) (hr : (r == 65533) = false) :
    Calls Tryd.prog 31 #[.string s, .int .i64 i, .int .i32 r] w fun e w' => e = .returned (.bool false) ∧ w = w' := by
  go_enter Tryd.func31, Tryd.ntmps31
  go_wp2
  go_ret
  exact ⟨rfl, rfl⟩

theorem stray_err (s : ByteArray) (i : Nat) (w : World) (hi : i ≤ s.size) :
    Calls Tryd.prog 31 #[.string s, .int .i64 i, .int .i32 65533] w fun e w' => e = .returned (.bool (!Lib.hasPrefix (List.take (s.size - i) (List.drop i s.data.toList)) [239, 191, 189])) ∧ w = w' := by
  go_enter Tryd.func31, Tryd.ntmps31
  go_wp2_with (go_at_call 51; refine (Tryd.strings_HasPrefix _ _ _).mono ?_; rintro e w' ⟨rfl, rfl⟩)
  go_ret
  exact ⟨rfl, rfl⟩
theorem stray_any (s : ByteArray) (i : Nat) (w : World) (hi : i < s.size) (_hs : s.size ≤ maxLen) :
    Calls Tryd.prog 31 #[.string s, .int .i64 i, .int .i32 (Utf8.decode s i).1] w fun e w' => e = .returned (.bool (strayB s i)) ∧ w = w' := by
  by_cases h : (Utf8.decode s i).1 = 65533
  · refine (show ((Utf8.decode s i).1 : Int) = 65533 by omega) ▸ (stray_err s i w (by omega)).mono ?_
    rintro e w' ⟨rfl, rfl⟩
    exact ⟨ret_bool (stray_prefix s i h), rfl⟩
  · refine (stray_not s i _ w (by simp; omega)).mono ?_
    rintro e w' ⟨rfl, rfl⟩
    exact ⟨ret_bool (by simp [strayB, h]), rfl⟩

end Go.Proofs.YtgakophdgjepmaaDoor
