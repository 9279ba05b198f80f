/- DecimalWhole: the digits of the library's writers and readers of numbers. -/
import Derived.Test.YtpbljcjghjbjdaaDoorDRef1
import Derived.Test.YtpbljcjghjbjdaaDoorDRefCmp
import Derived.Test.YtpbljcjghjbjdaaDoorDInt
import Derived.Test.YtpbljcjghjbjdaaDoorDOf
import Derived.Lib.ParseIntBCases
import Derived.Lib.ItoaNum
namespace Go.Proofs.YtpbljcjghjbjdaaDoor
open Go.RowKit

theorem dec_digs (v : Nat) : Lib.decDigits v = dB (digs v) := by
  induction v using Nat.strongRecOn with
  | _ v ih =>
    by_cases h : v < 10
    · rw [Lib.decDigits_one h]
      unfold digs
      rw [digsR_small h]
      rfl
    · rw [Lib.decDigits, dif_neg h, ih (v / 10) (by omega)]
      have e : digs v = digs (v / 10) ++ [v % 10] := by
        conv => lhs; unfold digs
        rw [digsR_great h, List.reverse_cons]
        rfl
      rw [e]
      unfold dB
      rw [List.map_append]
      rfl
theorem wbyte_nat {d : Nat} (h : d < 10) : ((48 + d).toUInt8).toNat = 48 + d := by
  show (UInt8.ofNat (48 + d)).toNat = 48 + d
  rw [UInt8.toNat_ofNat']
  omega
theorem parseM (M : Nat) (hM : M ≤ 18446744073709551615) : ∀ (l : List Nat) (acc : Nat), Digs l → acc * 10 ^ l.length + dVal l ≤ M → Lib.parseUintM M acc (dB l) = .ok (acc * 10 ^ l.length + dVal l)
  | [], acc, _, _ => by simp [dB, Lib.parseUintM, dVal_nil]
  | d :: l, acc, hd, h => by
    have hd1 : d < 10 := hd d (by simp)
    have hdl : Digs l := fun x hx => hd x (by simp [hx])
    have e : acc * 10 ^ (d :: l).length + dVal (d :: l) = (acc * 10 + d) * 10 ^ l.length + dVal l := by
      rw [dVal_cons, List.length_cons, Nat.pow_succ, Nat.add_mul, Nat.mul_assoc, Nat.mul_comm 10 (10 ^ l.length), Nat.add_assoc]
    rw [e] at h ⊢
    have hp : 1 ≤ 10 ^ l.length := Nat.pow_pos (by omega)
    have h2 : acc * 10 + d ≤ (acc * 10 + d) * 10 ^ l.length := Nat.le_mul_of_pos_right _ hp
    show Lib.parseUintM M acc ((48 + d).toUInt8 :: dB l) = _
    unfold Lib.parseUintM
    rw [wbyte_nat hd1, if_pos (by omega), if_neg (by omega), show 48 + d - 48 = d by omega, if_neg (by omega)]
    exact parseM M hM l (acc * 10 + d) hdl h
theorem parse_pos {l : List Nat} (hd : Digs l) (h1 : 1 ≤ l.length) (hv : dVal l ≤ 9223372036854775807) : Lib.parseIntB 64 (dB l) = .ok ((dVal l : Nat) : Int) := by
  have hU : Lib.parseUintB 64 (dB l) = .ok (dVal l) := by
    unfold Lib.parseUintB
    have hm := parseM (2 ^ 64 - 1) (by decide) l 0 hd (by omega)
    rw [Nat.zero_mul, Nat.zero_add] at hm
    rw [if_neg (by intro e; have := congrArg List.length e; unfold dB at this; rw [List.length_map, List.length_nil] at this; omega)]
    exact hm
  match l, h1 with
  | d :: r, _ =>
    have hd1 : d < 10 := hd d (by simp)
    have e : dB (d :: r) = (48 + d).toUInt8 :: dB r := rfl
    rw [e] at hU ⊢
    rw [Lib.parseIntB_plain 64 _ _ (by rw [wbyte_nat hd1]; omega) (by rw [wbyte_nat hd1]; omega), hU]
    show (if 2 ^ (64 - 1) ≤ dVal (d :: r) then _ else _) = _
    rw [if_neg (by omega)]
theorem parse_neg {l : List Nat} (hd : Digs l) (h1 : 1 ≤ l.length) (hv : dVal l ≤ 9223372036854775808) : Lib.parseIntB 64 (45 :: dB l) = .ok (-((dVal l : Nat) : Int)) := by
  have hU : Lib.parseUintB 64 (dB l) = .ok (dVal l) := by
    unfold Lib.parseUintB
    have hm := parseM (2 ^ 64 - 1) (by decide) l 0 hd (by omega)
    rw [Nat.zero_mul, Nat.zero_add] at hm
    rw [if_neg (by intro e; have := congrArg List.length e; unfold dB at this; rw [List.length_map, List.length_nil] at this; omega)]
    exact hm
  rw [Lib.parseIntB_minus, hU]
  show (if 2 ^ (64 - 1) < dVal l then _ else _) = _
  rw [if_neg (by omega)]
theorem itoa_pos {n : Int} (h : 0 ≤ n) : (⟨(Lib.itoa n).toArray⟩ : ByteArray) = dStr (digs n.natAbs) := by
  unfold Lib.itoa
  rw [if_neg (by omega), dec_digs, show n.toNat = n.natAbs by omega]
  rfl
theorem itoa_minus {n : Int} (h : n < 0) : (Lib.itoa n) = 45 :: dB (digs n.natAbs) := by
  unfold Lib.itoa
  rw [if_pos h, dec_digs]
theorem text_pos (i : List Nat) : (txS ⟨false, i, []⟩).data.toList = dB i := by
  show (txt (Dc.rw ⟨false, i, []⟩)) = _
  simp [txt, Dc.rw, dB]
theorem text_neg (i : List Nat) : (txS ⟨true, i, []⟩).data.toList = 45 :: dB i := by
  show (txt (Dc.rw ⟨true, i, []⟩)) = _
  simp [txt, Dc.rw, dB]
end Go.Proofs.YtpbljcjghjbjdaaDoor
