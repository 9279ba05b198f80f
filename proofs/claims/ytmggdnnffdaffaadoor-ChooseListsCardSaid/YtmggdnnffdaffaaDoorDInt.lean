/- Int64 of the program. -/
import Derived.Test.YtmggdnnffdaffaaDoorDBox
import Derived.Lib.EndianBits
namespace Go.Proofs.YtmggdnnffdaffaaDoor
open Go.RowKit

def mostN (neg : Bool) : Nat := if neg then 9223372036854775808 else 9223372036854775807
def fits (d : Dc) : Bool := zrB (dStr d.f) && decide (dVal d.i ≤ mostN d.neg)
def i64V (d : Dc) : Int := if fits d = true then (if d.neg then -(dVal d.i : Int) else (dVal d.i : Int)) else 0
def i64C (d : Dc) : Int := if fits d = true then 0 else 22
theorem fits_big {d : Dc} (h : mostN d.neg < dVal d.i) : fits d = false := by unfold fits; rw [decide_eq_false (by omega), Bool.and_false]
theorem fits_frac {d : Dc} (h : zrB (dStr d.f) = false) : fits d = false := by unfold fits; rw [h, Bool.false_and]
theorem fits_yes {d : Dc} (h : zrB (dStr d.f) = true) (h2 : dVal d.i ≤ mostN d.neg) : fits d = true := by unfold fits; rw [h, decide_eq_true h2]; rfl
theorem dVal_take_succ (l : List Nat) (k : Nat) (h : k < l.length) : dVal (l.take (k + 1)) = dVal (l.take k) * 10 + l.getD k 0 := by
  rw [List.take_add_one, List.getElem?_eq_getElem h, List.getD_eq_getElem?_getD, List.getElem?_eq_getElem h]
  exact dVal_snoc _ _
theorem dVal_take_le (l : List Nat) (k : Nat) : dVal (l.take k) ≤ dVal l := by
  conv => rhs; rw [← List.take_append_drop k l]
  rw [dVal_append]
  have := Nat.pos_of_ne_zero (Nat.pos_iff_ne_zero.1 (Nat.pow_pos (n := (l.drop k).length) (show 0 < 10 by omega)))
  exact Nat.le_trans (Nat.le_mul_of_pos_right _ this) (Nat.le_add_right _ _)

set_option maxHeartbeats 2000000 in
set_option maxRecDepth 100000 in
theorem int64_false (d : Dc) (w : World) (hd : d.Ok) (hn : d.neg = false) :
    Calls Tryd.prog 74 #[.agg #[.bool false, .string (dStr d.i), .string (dStr d.f)]] w fun e w' => e = .returned (.tuple #[.int .i64 (i64V d), .int .i64 (i64C d)]) ∧ Below w.heap.size w w' := by
  have DC : Hid (∀ wx : World, Calls Tryd.prog 16 #[.agg #[.bool false, .string (dStr d.i), .string (dStr d.f)]] wx fun e w' => e = .returned (.int .i64 (ckE false (dStr d.i) (dStr d.f))) ∧ Below wx.heap.size wx w') := fun wx => check_any false (dStr d.i) (dStr d.f) wx (by rw [dStr_size]; have := hd.most; omega) (by rw [dStr_size]; have := hd.most; omega)
  have q : ckE false (dStr d.i) (dStr d.f) = 0 := by rw [← hn]; exact ck_ok hd
  have hm := hd.most
  have ho1 := hd.one
  have si : (dStr d.i).size = d.i.length := dStr_size d.i
  have sf : (dStr d.f).size = d.f.length := dStr_size d.f
  have DZ := Lib.hid (fun wx => allZeros_any (dStr d.f) wx (by rw [dStr_size]; unfold maxLen; omega))
  have HDI := Lib.hid hd.di
  have HN := Lib.hid hn
  clear hd hn
  go_enter Tryd.func74, Tryd.ntmps74
  go_wp2_with fail
  obtain ⟨W2, hW2⟩ : ∃ W2, W2 = w.alloc (.cells #[.bool false, .string (dStr d.i), .string (dStr d.f)] 27) := ⟨_, rfl⟩
  obtain ⟨hb2, hz2, CA⟩ : Below w.heap.size w W2 ∧ w.heap.size + 1 ≤ W2.heap.size ∧ Cells3 W2 w.heap.size (.bool false) (.string (dStr d.i)) (.string (dStr d.f)) := by rw [hW2]; exact ⟨(Below.refl _ w).alloc (Nat.le_refl _) _, (one_box w _ _ _ _).1, (one_box w _ _ _ _).2.1⟩
  rw [← hW2]
  clear hW2
  (with_reducible refine (DC.out _).mono ?_)
  rintro e W3 ⟨rfl, hb3⟩
  obtain ⟨a0, a1, a2⟩ := CA.keep hb3 (by omega)
  have B3 := Lib.hid (hb2.trans (hb3.mono hb2.size))
  clear hb3 hb2 CA hz2
  go_wp2_with fail
  go_loopw [6, 19] (fun sz i wr => ∃ k v : Nat, i = .int .i64 k ∧ sz = .int .u64 v ∧ k ≤ d.i.length ∧ v = dVal (d.i.take k) ∧ v ≤ 9223372036854775807 ∧ W3 = wr) (fun _ i _ => d.i.length - (intOf i).toNat)
  case atStart => exact ⟨0, 0, rfl, rfl, by omega, rfl, by omega, rfl⟩
  case round =>
    obtain ⟨k, v, rfl, rfl, hk, hv, hvM, rfl⟩ := hrel
    have HV := Lib.hid hv
    clear hv
    by_cases hlt : k < d.i.length
    · have hks : k < (dStr d.i).size := by rw [si]; exact hlt
      have hget := dStr_get d.i HDI.out k hks
      have HX := Lib.hid (dVal_take_succ d.i k hlt)
      obtain ⟨x, hx⟩ : ∃ x, x = d.i.getD k 0 := ⟨_, rfl⟩
      have hx9 : x ≤ 9 := by
        have : d.i.getD k 0 < 10 := by rw [List.getD_eq_getElem?_getD, List.getElem?_eq_getElem hlt]; exact HDI.out _ (List.getElem_mem _)
        omega
      rw [← hx] at hget
      have HXX := Lib.hid hx
      clear hx
      have w1 : IntKind.u8.wrap (((dStr d.i)[k]'hks).toNat - 48 : Int) = (x : Int) := by rw [hget]; rw [IntWalk.u8_in _ (by omega)]; omega
      have w2 : IntKind.u64.wrap (x : Int) = x := IntWalk.u64_in _ (by omega)
      have w3 : IntKind.u64.wrap (9223372036854775807 - (x : Int)) = 9223372036854775807 - (x : Int) := IntWalk.u64_in _ (by omega)
      obtain ⟨y, hy⟩ : ∃ y : Nat, y = (9223372036854775807 - x) / 10 := ⟨_, rfl⟩
      have hy1 : 10 * y + x ≤ 9223372036854775807 := by omega
      have hy2 : 9223372036854775807 < 10 * y + x + 10 := by omega
      have w4 : (9223372036854775807 - (x : Int)).tdiv 10 = (y : Int) := by
        rw [Int.tdiv_eq_ediv_of_nonneg (by omega)]; omega
      have w5 : IntKind.u64.wrap (y : Int) = y := IntWalk.u64_in _ (by omega)
      clear hy
      clear hget
      by_cases hh : y < v
      · have NO : Hid (fits d = false) := fits_big (by rw [HN.out]; have h1 := HX.out; have h2 := dVal_take_le d.i (k + 1); rw [← HV.out, ← HXX.out] at h1; show 9223372036854775807 < _; omega)
        have q2 := Lib.hid (show i64V d = 0 from if_neg (by rw [NO.out]; decide))
        have q3 := Lib.hid (show i64C d = 22 from if_neg (by rw [NO.out]; decide))
        go_wp2
        go_ret2
        exact ⟨(by first | (rw [q2.out, q3.out]; done) | (rw [q2.out, q3.out]; rfl)), B3.out⟩
      · have w6 : IntKind.u64.wrap ((v : Int) * 10) = (v : Int) * 10 := IntWalk.u64_in _ (by omega)
        have w7 : IntKind.u64.wrap ((v : Int) * 10 + x) = (v : Int) * 10 + x := IntWalk.u64_in _ (by omega)
        have HH := Lib.hid hh
        go_wp2
        go_roundw
        case rel => exact ⟨k + 1, v * 10 + x, by go_num, by go_num, by omega, by have h1 := HX.out; rw [← HV.out, ← HXX.out] at h1; omega, by have := HH.out; omega, by trivial⟩
        case measure => simp [intOf]; omega
    · obtain rfl : k = d.i.length := by omega
      have HV2 := Lib.hid (show v = dVal d.i by rw [HV.out, List.take_length])
      clear hlt
      cases hz : zrB (dStr d.f) with
      | false =>
        have NO : Hid (fits d = false) := fits_frac hz
        have q2 := Lib.hid (show i64V d = 0 from if_neg (by rw [NO.out]; decide))
        have q3 := Lib.hid (show i64C d = 22 from if_neg (by rw [NO.out]; decide))
        go_wp2_with fail
        (with_reducible refine (DZ.out _).mono ?_)
        rintro e W4 ⟨rfl, rfl⟩
        go_wp2
        go_ret2
        exact ⟨(by first | (rw [q2.out, q3.out]; done) | (rw [q2.out, q3.out]; rfl)), B3.out⟩
      | true =>
        have YES : Hid (fits d = true) := fits_yes hz (by rw [HN.out, ← HV2.out]; exact hvM)
        have q2 := Lib.hid (show i64V d = (v : Int) by rw [i64V, if_pos YES.out, HN.out, ← HV2.out]; rfl)
        have q3 := Lib.hid (show i64C d = 0 from if_pos YES.out)
        have wz : IntKind.i64.wrap (v : Int) = v := IntWalk.i64_in _ (by omega)
        go_wp2_with fail
        (with_reducible refine (DZ.out _).mono ?_)
        rintro e W4 ⟨rfl, rfl⟩
        go_wp2
        go_ret2
        exact ⟨(by first | (rw [q2.out, q3.out]; done) | (rw [q2.out, q3.out]; rfl)), B3.out⟩

set_option maxHeartbeats 2000000 in
set_option maxRecDepth 100000 in
theorem int64_true (d : Dc) (w : World) (hd : d.Ok) (hn : d.neg = true) :
    Calls Tryd.prog 74 #[.agg #[.bool true, .string (dStr d.i), .string (dStr d.f)]] w fun e w' => e = .returned (.tuple #[.int .i64 (i64V d), .int .i64 (i64C d)]) ∧ Below w.heap.size w w' := by
  have DC : Hid (∀ wx : World, Calls Tryd.prog 16 #[.agg #[.bool true, .string (dStr d.i), .string (dStr d.f)]] wx fun e w' => e = .returned (.int .i64 (ckE true (dStr d.i) (dStr d.f))) ∧ Below wx.heap.size wx w') := fun wx => check_any true (dStr d.i) (dStr d.f) wx (by rw [dStr_size]; have := hd.most; omega) (by rw [dStr_size]; have := hd.most; omega)
  have q : ckE true (dStr d.i) (dStr d.f) = 0 := by rw [← hn]; exact ck_ok hd
  have hm := hd.most
  have ho1 := hd.one
  have si : (dStr d.i).size = d.i.length := dStr_size d.i
  have sf : (dStr d.f).size = d.f.length := dStr_size d.f
  have DZ := Lib.hid (fun wx => allZeros_any (dStr d.f) wx (by rw [dStr_size]; unfold maxLen; omega))
  have HDI := Lib.hid hd.di
  have HN := Lib.hid hn
  clear hd hn
  go_enter Tryd.func74, Tryd.ntmps74
  go_wp2_with fail
  obtain ⟨W2, hW2⟩ : ∃ W2, W2 = w.alloc (.cells #[.bool true, .string (dStr d.i), .string (dStr d.f)] 27) := ⟨_, rfl⟩
  obtain ⟨hb2, hz2, CA⟩ : Below w.heap.size w W2 ∧ w.heap.size + 1 ≤ W2.heap.size ∧ Cells3 W2 w.heap.size (.bool true) (.string (dStr d.i)) (.string (dStr d.f)) := by rw [hW2]; exact ⟨(Below.refl _ w).alloc (Nat.le_refl _) _, (one_box w _ _ _ _).1, (one_box w _ _ _ _).2.1⟩
  rw [← hW2]
  clear hW2
  (with_reducible refine (DC.out _).mono ?_)
  rintro e W3 ⟨rfl, hb3⟩
  obtain ⟨a0, a1, a2⟩ := CA.keep hb3 (by omega)
  have B3 := Lib.hid (hb2.trans (hb3.mono hb2.size))
  clear hb3 hb2 CA hz2
  go_wp2_with fail
  go_loopw [6, 19] (fun sz i wr => ∃ k v : Nat, i = .int .i64 k ∧ sz = .int .u64 v ∧ k ≤ d.i.length ∧ v = dVal (d.i.take k) ∧ v ≤ 9223372036854775808 ∧ W3 = wr) (fun _ i _ => d.i.length - (intOf i).toNat)
  case atStart => exact ⟨0, 0, rfl, rfl, by omega, rfl, by omega, rfl⟩
  case round =>
    obtain ⟨k, v, rfl, rfl, hk, hv, hvM, rfl⟩ := hrel
    have HV := Lib.hid hv
    clear hv
    by_cases hlt : k < d.i.length
    · have hks : k < (dStr d.i).size := by rw [si]; exact hlt
      have hget := dStr_get d.i HDI.out k hks
      have HX := Lib.hid (dVal_take_succ d.i k hlt)
      obtain ⟨x, hx⟩ : ∃ x, x = d.i.getD k 0 := ⟨_, rfl⟩
      have hx9 : x ≤ 9 := by
        have : d.i.getD k 0 < 10 := by rw [List.getD_eq_getElem?_getD, List.getElem?_eq_getElem hlt]; exact HDI.out _ (List.getElem_mem _)
        omega
      rw [← hx] at hget
      have HXX := Lib.hid hx
      clear hx
      have w1 : IntKind.u8.wrap (((dStr d.i)[k]'hks).toNat - 48 : Int) = (x : Int) := by rw [hget]; rw [IntWalk.u8_in _ (by omega)]; omega
      have w2 : IntKind.u64.wrap (x : Int) = x := IntWalk.u64_in _ (by omega)
      have w3 : IntKind.u64.wrap (9223372036854775808 - (x : Int)) = 9223372036854775808 - (x : Int) := IntWalk.u64_in _ (by omega)
      obtain ⟨y, hy⟩ : ∃ y : Nat, y = (9223372036854775808 - x) / 10 := ⟨_, rfl⟩
      have hy1 : 10 * y + x ≤ 9223372036854775808 := by omega
      have hy2 : 9223372036854775808 < 10 * y + x + 10 := by omega
      have w4 : (9223372036854775808 - (x : Int)).tdiv 10 = (y : Int) := by
        rw [Int.tdiv_eq_ediv_of_nonneg (by omega)]; omega
      have w5 : IntKind.u64.wrap (y : Int) = y := IntWalk.u64_in _ (by omega)
      clear hy
      clear hget
      by_cases hh : y < v
      · have NO : Hid (fits d = false) := fits_big (by rw [HN.out]; have h1 := HX.out; have h2 := dVal_take_le d.i (k + 1); rw [← HV.out, ← HXX.out] at h1; show 9223372036854775808 < _; omega)
        have q2 := Lib.hid (show i64V d = 0 from if_neg (by rw [NO.out]; decide))
        have q3 := Lib.hid (show i64C d = 22 from if_neg (by rw [NO.out]; decide))
        go_wp2
        go_ret2
        exact ⟨(by first | (rw [q2.out, q3.out]; done) | (rw [q2.out, q3.out]; rfl)), B3.out⟩
      · have w6 : IntKind.u64.wrap ((v : Int) * 10) = (v : Int) * 10 := IntWalk.u64_in _ (by omega)
        have w7 : IntKind.u64.wrap ((v : Int) * 10 + x) = (v : Int) * 10 + x := IntWalk.u64_in _ (by omega)
        have HH := Lib.hid hh
        go_wp2
        go_roundw
        case rel => exact ⟨k + 1, v * 10 + x, by go_num, by go_num, by omega, by have h1 := HX.out; rw [← HV.out, ← HXX.out] at h1; omega, by have := HH.out; omega, by trivial⟩
        case measure => simp [intOf]; omega
    · obtain rfl : k = d.i.length := by omega
      have HV2 := Lib.hid (show v = dVal d.i by rw [HV.out, List.take_length])
      clear hlt
      cases hz : zrB (dStr d.f) with
      | false =>
        have NO : Hid (fits d = false) := fits_frac hz
        have q2 := Lib.hid (show i64V d = 0 from if_neg (by rw [NO.out]; decide))
        have q3 := Lib.hid (show i64C d = 22 from if_neg (by rw [NO.out]; decide))
        go_wp2_with fail
        (with_reducible refine (DZ.out _).mono ?_)
        rintro e W4 ⟨rfl, rfl⟩
        go_wp2
        go_ret2
        exact ⟨(by first | (rw [q2.out, q3.out]; done) | (rw [q2.out, q3.out]; rfl)), B3.out⟩
      | true =>
        have YES : Hid (fits d = true) := fits_yes hz (by rw [HN.out, ← HV2.out]; exact hvM)
        have q2 := Lib.hid (show i64V d = -(v : Int) by rw [i64V, if_pos YES.out, HN.out, ← HV2.out]; rfl)
        have q3 := Lib.hid (show i64C d = 0 from if_pos YES.out)
        have wz : IntKind.i64.wrap (IntKind.u64.wrap (-(v : Int))) = -(v : Int) := by rw [IntKind.wrap_i64, IntKind.wrap_u64]; omega
        go_wp2_with fail
        (with_reducible refine (DZ.out _).mono ?_)
        rintro e W4 ⟨rfl, rfl⟩
        go_wp2
        go_ret2
        exact ⟨(by first | (rw [q2.out, q3.out]; done) | (rw [q2.out, q3.out]; rfl)), B3.out⟩

set_option maxHeartbeats 1000000 in
set_option maxRecDepth 100000 in
theorem int64_bad (n : Bool) (i f : ByteArray) (w : World) (h1 : i.size ≤ 140737488355328) (h2 : f.size ≤ 140737488355328) (h : okB n i f = false) :
    Calls Tryd.prog 74 #[.agg #[.bool n, .string i, .string f]] w fun e w' => e = .returned (.tuple #[.int .i64 0, .int .i64 20]) ∧ Below w.heap.size w w' := by
  have DC := Lib.hid (fun wx => check_any n i f wx h1 h2)
  have q := ck_bad h
  clear h
  go_enter Tryd.func74, Tryd.ntmps74
  go_wp2_with fail
  (with_reducible refine (DC.out _).mono ?_)
  rintro e W3 ⟨rfl, hb3⟩
  have B3 := Lib.hid (((Below.refl _ w).alloc (Nat.le_refl _) _).trans (hb3.mono (by simp)))
  clear hb3
  go_wp2
  go_ret2
  exact ⟨rfl, B3.out⟩
end Go.Proofs.YtmggdnnffdaffaaDoor
