/- May a decimal be? hasForm, Check of both sides. -/
import Derived.Test.YtmggdnnffdaffaaDoorDLeaf
import Derived.Deep.QuietTactic
import Derived.BigQuiet
namespace Go.Proofs.YtmggdnnffdaffaaDoor
open Go.RowKit

theorem toList_nil {s : ByteArray} : s.toList = [] ↔ s.size = 0 := by
  rw [Lib.toList_data]
  constructor
  · intro h
    have := congrArg List.length h
    simpa using this
  · intro h
    exact List.eq_nil_of_length_eq_zero (by simpa using h)

set_option maxRecDepth 100000 in
theorem isZero_any (n : Bool) (i f : ByteArray) (w : World) (hi : i.size ≤ maxLen) (hf : f.size ≤ maxLen) :
    Calls Tryd.prog 48 #[.agg #[.bool n, .string i, .string f]] w fun e w' => e = .returned (.bool (zrB i && zrB f)) ∧ Below w.heap.size w w' := by
  have HI := Lib.hid hi
  have HF := Lib.hid hf
  clear hi hf
  cases h1 : zrB i
  all_goals
    go_enter Tryd.func48, Tryd.ntmps48
    go_wp2_with (first | (go_at_call 58; refine (allZeros_any _ _ (by first | exact HI.out | exact HF.out)).mono ?_; rintro e w' ⟨rfl, rfl⟩))
    go_ret
    exact ⟨by simp, (Below.refl _ w).alloc (Nat.le_refl _) _⟩
/-- The form of a decimal that may be, but for the number of its digits. -/
def formB (n : Bool) (i f : ByteArray) : Bool := decide (i.size ≠ 0) && dgB i && dgB f && !(decide (byteN i 0 = 48) && decide (1 < i.size)) && !(n && zrB i && zrB f)

set_option maxRecDepth 100000 in
theorem hasForm_any (n : Bool) (i f : ByteArray) (w : World) (hi : i.size ≤ maxLen) (hf : f.size ≤ maxLen) :
    Calls Tryd.prog 33 #[.agg #[.bool n, .string i, .string f]] w fun e w' => e = .returned (.bool (formB n i f)) ∧ Below w.heap.size w w' := by
  have HI := Lib.hid hi
  have HF := Lib.hid hf
  unfold maxLen at hi
  clear hf
  by_cases h0 : i.size = 0
  · have n1 : i.toList = [] := toList_nil.2 h0
    have H0 := Lib.hid h0
    clear h0
    go_enter Tryd.func33, Tryd.ntmps33
    go_wp2
    go_ret
    exact ⟨ret_bool (by unfold formB; rw [decide_eq_false (by simpa using H0.out)]; simp), (Below.refl _ w).alloc (Nat.le_refl _) _⟩
  have n1 : ¬ i.toList = [] := fun h => h0 (toList_nil.1 h)
  have n2 : i.toList.isEmpty = false := by simpa using n1
  have hp : 0 < i.size := by omega
  have E0 := Lib.hid (show decide (i.size ≠ 0) = true from decide_eq_true h0)
  have Z := Lib.hid (byteN_at i 0 hp)
  clear h0
  cases h1 : dgB i with
  | false =>
    go_enter Tryd.func33, Tryd.ntmps33
    go_wp2_with (first | (go_at_call 47; refine (allDigits_any _ _ HI.out).mono ?_; rintro e w' ⟨rfl, rfl⟩))
    go_ret
    exact ⟨ret_bool (by unfold formB; rw [E0.out, h1]; rfl), (Below.refl _ w).alloc (Nat.le_refl _) _⟩
  | true =>
    cases h2 : dgB f with
    | false =>
      go_enter Tryd.func33, Tryd.ntmps33
      go_wp2_with (first | (go_at_call 47; refine (allDigits_any _ _ (by first | exact HI.out | exact HF.out)).mono ?_; rintro e w' ⟨rfl, rfl⟩))
      go_ret
      exact ⟨ret_bool (by unfold formB; rw [E0.out, h1, h2]; rfl), (Below.refl _ w).alloc (Nat.le_refl _) _⟩
    | true =>
      by_cases h48 : i[0].toNat = 48
      · have q : ((i[0].toNat : Int) == 48) = true := by simp; omega
        have H48 := Lib.hid (show byteN i 0 = 48 by rw [← Z.out]; exact h48)
        clear h48
        by_cases h3 : 1 < i.size
        · go_enter Tryd.func33, Tryd.ntmps33
          go_wp2_with (first | (go_at_call 47; refine (allDigits_any _ _ (by first | exact HI.out | exact HF.out)).mono ?_; rintro e w' ⟨rfl, rfl⟩))
          go_ret
          exact ⟨ret_bool (by unfold formB; rw [E0.out, h1, h2, decide_eq_true H48.out, decide_eq_true h3]; rfl), (Below.refl _ w).alloc (Nat.le_refl _) _⟩
        · have q3 : decide ((1 : Int) < (i.size : Int)) = false := decide_eq_false (by omega)
          have H3 := Lib.hid h3
          clear h3
          cases n
          all_goals
            go_enter Tryd.func33, Tryd.ntmps33
            go_wp2_with (first | (go_at_call 47; refine (allDigits_any _ _ (by first | exact HI.out | exact HF.out)).mono ?_; rintro e w' ⟨rfl, rfl⟩) | (go_at_call 48; refine (isZero_any _ _ _ _ HI.out HF.out).mono ?_))
            try rintro e w' ⟨rfl, hb⟩
            try go_wp2
            go_ret
            first | exact ⟨ret_bool (by unfold formB; rw [E0.out, h1, h2, decide_eq_false H3.out]; simp), (Below.refl _ w).alloc (Nat.le_refl _) _⟩ | exact ⟨ret_bool (by unfold formB; rw [E0.out, h1, h2, decide_eq_false H3.out]; simp), ((Below.refl _ w).alloc (Nat.le_refl _) _).trans (hb.mono (by simp))⟩
      · have q : ((i[0].toNat : Int) == 48) = false := by simp; omega
        have H48 := Lib.hid (show ¬ byteN i 0 = 48 by rw [← Z.out]; exact h48)
        clear h48
        cases n
        all_goals
          go_enter Tryd.func33, Tryd.ntmps33
          go_wp2_with (first | (go_at_call 47; refine (allDigits_any _ _ (by first | exact HI.out | exact HF.out)).mono ?_; rintro e w' ⟨rfl, rfl⟩) | (go_at_call 48; refine (isZero_any _ _ _ _ HI.out HF.out).mono ?_))
          try rintro e w' ⟨rfl, hb⟩
          try go_wp2
          go_ret
          first | exact ⟨ret_bool (by unfold formB; rw [E0.out, h1, h2, decide_eq_false H48.out]; simp), (Below.refl _ w).alloc (Nat.le_refl _) _⟩ | exact ⟨ret_bool (by unfold formB; rw [E0.out, h1, h2, decide_eq_false H48.out]; simp), ((Below.refl _ w).alloc (Nat.le_refl _) _).trans (hb.mono (by simp))⟩

/-- May it be? -/
def okB (n : Bool) (i f : ByteArray) : Bool := decide (i.size + f.size ≤ 40) && formB n i f
def ckE (n : Bool) (i f : ByteArray) : Int := if okB n i f then 0 else 20
set_option maxRecDepth 100000 in
theorem check_any (n : Bool) (i f : ByteArray) (w : World) (hi : i.size ≤ 140737488355328) (hf : f.size ≤ 140737488355328) :
    Calls Tryd.prog 16 #[.agg #[.bool n, .string i, .string f]] w fun e w' => e = .returned (.int .i64 (ckE n i f)) ∧ Below w.heap.size w w' := by
  have HI : Hid (i.size ≤ maxLen) := by unfold maxLen; exact (by omega : i.size ≤ 2 ^ 63 - 1)
  have HF : Hid (f.size ≤ maxLen) := by unfold maxLen; exact (by omega : f.size ≤ 2 ^ 63 - 1)
  by_cases h : 40 < i.size + f.size
  · have q : decide ((40 : Int) < (i.size : Int) + (f.size : Int)) = true := decide_eq_true (by omega)
    go_enter Tryd.func16, Tryd.ntmps16
    go_wp2
    go_ret
    exact ⟨ret_int (by unfold ckE okB; rw [decide_eq_false (by omega)]; rfl), (Below.refl _ w).alloc (Nat.le_refl _) _⟩
  · have q : decide ((40 : Int) < (i.size : Int) + (f.size : Int)) = false := decide_eq_false (by omega)
    have H := Lib.hid (show decide (i.size + f.size ≤ 40) = true from decide_eq_true (by omega))
    clear h
    cases h1 : formB n i f
    all_goals
      go_enter Tryd.func16, Tryd.ntmps16
      go_wp2_with (first | (go_at_call 33; refine (hasForm_any _ _ _ _ HI.out HF.out).mono ?_))
      rintro e w' ⟨rfl, hb⟩
      go_wp2
      go_ret
      exact ⟨ret_int (by unfold ckE okB; rw [H.out, h1]; rfl), ((Below.refl _ w).alloc (Nat.le_refl _) _).trans (hb.mono (by simp))⟩
end Go.Proofs.YtmggdnnffdaffaaDoor
