/- Rounding, in numbers. -/
import Derived.Test.YtpbljcjghjbjdaaDoorDOf
import Derived.Test.YtpbljcjghjbjdaaDoorDMoves
import Derived.Test.YtpbljcjghjbjdaaDoorDDiv
import Derived.Test.YtpbljcjghjbjdaaDoorDCompare
namespace Go.Proofs.YtpbljcjghjbjdaaDoor
open Go.RowKit

/-- The decimal of a whole number. -/
def natD (n : Nat) : Dc := ⟨false, digs n, []⟩
theorem mk_nat (n : Nat) (h : n < 10 ^ 40) : mk (n : Int) 0 = some (natD n) := by
  have h1 := (digs_le n 40 (by omega)).2 h
  have h2 := digs_len n
  unfold mk natD
  rw [padTo_len, show ((n : Int)).natAbs = n from rfl, if_neg (by omega), padTo_same (by omega), Nat.sub_zero, List.take_of_length_le (by omega), List.drop_eq_nil_of_le (by omega), decide_eq_false (by omega)]
theorem natD_ok (n : Nat) (h : n < 10 ^ 40) : (natD n).Ok := (mk_some (mk_nat n h)).2.2.1
theorem natD_num (n : Nat) : (natD n).num = n := by unfold natD Dc.num; rw [List.append_nil, dVal_digs]
theorem natD_z (n : Nat) : (natD n).z = n := by unfold Dc.z; rw [natD_num]; rfl
theorem znum (d : Dc) : d.z = 0 ↔ d.num = 0 := by
  unfold Dc.z
  split <;> omega
theorem cmp_nat0 (d : Dc) : cmpD d (natD 0) = d.z.sign := by
  rw [cmp_sign d (natD 0) d.f.length (Nat.le_refl _) (Nat.zero_le _), up_same, (up_zero (d := natD 0) _).2 (by rw [natD_z]; rfl), Int.sub_zero]
theorem sign_zero (d : Dc) : d.z.sign = 0 ↔ d.num = 0 := by rw [Int.sign_eq_zero_iff_zero, znum]

/-- Does one go away from 0? c: how twice what is left stands to the unit. -/
def upB (mode : Int) (neg odd : Bool) (c : Int) : Bool :=
  decide (mode = 1) || (decide (mode = 3) && !neg) || (decide (mode = 4) && neg) || (decide (5 ≤ mode) && (decide (0 < c) || (decide (c = 0) && (decide (mode = 5) || (decide (mode = 7) && odd)))))
/-- How many units a number is, rounded. -/
def roQ (mode : Int) (neg : Bool) (x u : Nat) : Nat := x / u + if decide (x % u ≠ 0) && upB mode neg (decide (x / u % 2 = 1)) (cmpN (2 * (x % u)) u) then 1 else 0
def roD (mode : Int) (d u : Dc) : Option Dc := mkN d.neg (roQ mode d.neg (d.raised (max d.f.length u.f.length)) (u.raised (max d.f.length u.f.length)) * u.num) u.f.length

/-- compareToHalf: by how many times the rest goes into the unit. -/
theorem half_cmp {r u : Nat} (h0 : 0 < r) (h1 : r < u) : cmpN (2 * r) u = if u / r = 1 then 1 else if u / r = 2 ∧ u % r = 0 then 0 else -1 := by
  have e := Nat.div_add_mod u r
  have hm := Nat.mod_lt u h0
  have hp : 1 ≤ u / r := (Nat.le_div_iff_mul_le h0).2 (by omega)
  generalize u / r = t at *
  generalize u % r = m at *
  unfold cmpN
  by_cases t1 : t = 1
  · subst t1
    repeat' split
    all_goals omega
  · by_cases t2 : t = 2
    · subst t2
      repeat' split
      all_goals omega
    · have : r * 3 ≤ r * t := Nat.mul_le_mul_left _ (by omega)
      generalize r * t = z at *
      repeat' split
      all_goals omega
theorem str_ne {a b : ByteArray} (h : ¬ a = b) : (a.toList == b.toList) = false := by
  rw [Lib.toList_data, Lib.toList_data, beq_eq_false_iff_ne]
  intro e
  apply h
  cases a; cases b
  congr 1
  exact Array.toList_inj.1 e
theorem bool_ne {a b : Bool} (h : ¬ a = b) : (a == b) = false := by rw [beq_eq_false_iff_ne]; exact h
theorem nat_str {a b : Nat} (h : a ≠ b) : ((dStr (digs a)).toList == (dStr (digs b)).toList) = false :=
  str_ne fun e => h (digs_inj (dStr_inj (digs_digs a) (digs_digs b) e))
end Go.Proofs.YtpbljcjghjbjdaaDoor
