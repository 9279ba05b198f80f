/- The program's reading of hexadecimal digits. -/
import Derived.Test.YtgakophdgjepmaaDoorUnescM
import Derived.Test.YtgakophdgjepmaaDoorRefHex
namespace Go.Proofs.YtgakophdgjepmaaDoor
open Go.RowKit

def hexVEnd (o : Option Nat) : Ending := match o with
  | some v => .returned (.tuple #[.int .i32 v, .bool true])
  | none => .returned (.tuple #[.int .i32 0, .bool false])
theorem ret_val {a : Int} {v : Nat} (h : a = v) : Ending.returned (.tuple #[.int .i32 a, .bool true]) = hexVEnd (some v) := by rw [h]; rfl

set_option maxRecDepth 100000 in
theorem hexValue_any (c : Nat) (w : World) (hc : c < 256) :
    Calls Tryd.prog 66 #[.int .u8 c] w fun e w' => e = hexVEnd (hexV c) ∧ w = w' := by
  by_cases a1 : 48 ≤ c ∧ c ≤ 57
  · obtain ⟨a, b⟩ := a1
    have H : Hid (hexV c = some (c - 48)) := if_pos ⟨a, b⟩
    go_enter Tryd.func66, Tryd.ntmps66
    go_wp2
    go_ret2
    exact ⟨by rw [H.out]; exact ret_val (by omega), rfl⟩
  by_cases a2 : 97 ≤ c ∧ c ≤ 102
  · obtain ⟨a, b⟩ := a2
    have H : Hid (hexV c = some (c - 87)) := by unfold hexV; rw [if_neg a1, if_pos ⟨a, b⟩]; exact rfl
    clear a1
    have q1 : decide ((c : Int) ≤ 57) = false := decide_eq_false (by omega)
    go_enter Tryd.func66, Tryd.ntmps66
    go_wp2
    go_ret2
    exact ⟨by rw [H.out]; exact ret_val (by omega), rfl⟩
  by_cases a3 : 65 ≤ c ∧ c ≤ 70
  · obtain ⟨a, b⟩ := a3
    have H : Hid (hexV c = some (c - 55)) := by unfold hexV; rw [if_neg a1, if_neg a2, if_pos ⟨a, b⟩]; exact rfl
    clear a1 a2
    have q1 : decide ((c : Int) ≤ 57) = false := decide_eq_false (by omega)
    have q2 : decide ((97 : Int) ≤ (c : Int)) = false := decide_eq_false (by omega)
    go_enter Tryd.func66, Tryd.ntmps66
    go_wp2
    go_ret2
    exact ⟨by rw [H.out]; exact ret_val (by omega), rfl⟩
  have H : Hid (hexV c = none) := by unfold hexV; rw [if_neg a1, if_neg a2, if_neg a3]; exact rfl
  go_enter Tryd.func66, Tryd.ntmps66
  go_wp2
  all_goals first | (go_ret2; exact ⟨by rw [H.out]; rfl, rfl⟩) | omega

theorem hexValue_some (c v : Nat) (w : World) (hc : c < 256) (h : hexV c = some v) :
    Calls Tryd.prog 66 #[.int .u8 c] w fun e w' => e = .returned (.tuple #[.int .i32 v, .bool true]) ∧ w = w' := by
  refine (hexValue_any c w hc).mono ?_
  rintro e w' ⟨rfl, rfl⟩
  exact ⟨by rw [h]; rfl, rfl⟩
theorem hexValue_none (c : Nat) (w : World) (hc : c < 256) (h : hexV c = none) :
    Calls Tryd.prog 66 #[.int .u8 c] w fun e w' => e = .returned (.tuple #[.int .i32 0, .bool false]) ∧ w = w' := by
  refine (hexValue_any c w hc).mono ?_
  rintro e w' ⟨rfl, rfl⟩
  exact ⟨by rw [h]; rfl, rfl⟩

set_option maxHeartbeats 1000000 in
set_option maxRecDepth 100000 in
theorem readHex_any (t : ByteArray) (d : Nat) (w : World) (hs : t.size ≤ maxLen) (hd0 : 0 < d) (hd : d ≤ 6) :
    Calls Tryd.prog 64 #[.string t, .int .i64 d] w fun e w' => e = hexVEnd (hexN t 0 d) ∧ w = w' := by
  unfold maxLen at hs
  by_cases hl : t.size < d
  · have H := Lib.hid (hexN_out (s := t) (p := 0) hd0 (by omega))
    go_enter Tryd.func64, Tryd.ntmps64
    go_wp2
    go_ret2
    exact ⟨by rw [H.out]; rfl, rfl⟩
  have q0 : decide ((t.size : Int) < (d : Int)) = false := decide_eq_false (by omega)
  go_enter Tryd.func64, Tryd.ntmps64
  go_wp2
  go_loop [6, 15] (fun n i => ∃ (k a : Nat), k ≤ d ∧ i = .int .i64 k ∧ n = .int .i32 a ∧ hexN t 0 k = some a) (fun _ i => d - (intOf i).toNat)
  case atStart => exact ⟨0, 0, by omega, rfl, rfl, rfl⟩
  case round =>
    obtain ⟨k, a, hk, rfl, rfl, hN⟩ := hrel
    have HN := Lib.hid hN
    have hlt16 := hexN_lt hN
    clear hN
    by_cases hlt : k < d
    · have ha : a < 1048576 := by
        have : 16 ^ k ≤ 16 ^ 5 := Nat.pow_le_pow_right (by omega) (by omega)
        omega
      clear hlt16
      have hkt : k < t.size := by omega
      have HB := Lib.hid (byteN_at t k hkt)
      have hb := byteN_lt t k
      have hb2 : t[k].toNat < 256 := t[k].toNat_lt
      cases hv : hexV (byteN t k) with
      | none =>
        have HV : Hid (hexV (t[k].toNat) = none) := by rw [HB.out]; exact hv
        have HV2 := Lib.hid hv
        clear hv
        go_wp2_with (go_at_call 66; refine (hexValue_none _ _ hb2 HV.out).mono ?_; rintro e w' ⟨rfl, rfl⟩)
        go_ret2
        exact ⟨by rw [hexN_none (hexN_succ_none HN.out (by rw [Nat.zero_add]; exact HV2.out)) hlt]; rfl, rfl⟩
      | some v =>
        have HV : Hid (hexV (t[k].toNat) = some v) := by rw [HB.out]; exact hv
        have HV2 := Lib.hid hv
        have hv16 := hexV_lt hv
        have hor := or16_i32 a v (by omega) hv16
        clear hv
        go_wp2_with (go_at_call 66; refine (hexValue_some _ v _ hb2 HV.out).mono ?_; rintro e w' ⟨rfl, rfl⟩)
        go_round
        case rel => exact ⟨k + 1, a * 16 + v, by omega, by go_num, by go_num, hexN_succ_some HN.out (by rw [Nat.zero_add]; exact HV2.out)⟩
        case measure => simp [intOf]; omega
    · obtain rfl : k = d := by omega
      go_wp2
      go_ret2
      exact ⟨by rw [HN.out]; rfl, rfl⟩
end Go.Proofs.YtgakophdgjepmaaDoor
