/- The reference's reading of hexadecimal digits, and a rune's bytes. -/
import Derived.Test.YtgakophdgjepmaaDoorUnescM
import Derived.Test.YtgakophdgjepmaaDoorRefHex
namespace Go.Proofs.YtgakophdgjepmaaDoor
open Go.RowKit

def unhexZ (s : ByteArray) (p d : Nat) : Int := match hexN s p d with
  | some n => (n : Int)
  | none => -1
theorem unhexZ_some {s : ByteArray} {p d n : Nat} (h : hexN s p d = some n) : unhexZ s p d = n := by unfold unhexZ; rw [h]
theorem unhexZ_none {s : ByteArray} {p d : Nat} (h : hexN s p d = none) : unhexZ s p d = -1 := by unfold unhexZ; rw [h]

theorem hexV_none {c : Nat} (h : hexV c = none) : ¬ (48 ≤ c ∧ c ≤ 57) ∧ ¬ (97 ≤ c ∧ c ≤ 102) ∧ ¬ (65 ≤ c ∧ c ≤ 70) := by
  unfold hexV at h
  by_cases c1 : 48 ≤ c ∧ c ≤ 57
  · rw [if_pos c1] at h; cases h
  rw [if_neg c1] at h
  by_cases c2 : 97 ≤ c ∧ c ≤ 102
  · rw [if_pos c2] at h; cases h
  rw [if_neg c2] at h
  by_cases c3 : 65 ≤ c ∧ c ≤ 70
  · rw [if_pos c3] at h; cases h
  exact ⟨c1, c2, c3⟩
theorem hexV_some {c v : Nat} (h : hexV c = some v) : (48 ≤ c ∧ c ≤ 57 ∧ v = c - 48) ∨ (97 ≤ c ∧ c ≤ 102 ∧ v = c - 87) ∨ (65 ≤ c ∧ c ≤ 70 ∧ v = c - 55) := by
  unfold hexV at h
  by_cases c1 : 48 ≤ c ∧ c ≤ 57
  · rw [if_pos c1] at h; cases h; exact .inl ⟨c1.1, c1.2, rfl⟩
  rw [if_neg c1] at h
  by_cases c2 : 97 ≤ c ∧ c ≤ 102
  · rw [if_pos c2] at h; cases h; exact .inr (.inl ⟨c2.1, c2.2, rfl⟩)
  rw [if_neg c2] at h
  by_cases c3 : 65 ≤ c ∧ c ≤ 70
  · rw [if_pos c3] at h; cases h; exact .inr (.inr ⟨c3.1, c3.2, rfl⟩)
  rw [if_neg c3] at h
  cases h

set_option maxHeartbeats 2000000 in
set_option maxRecDepth 100000 in
theorem unhex_any (s : ByteArray) (p d : Nat) (w : World) (hs : s.size ≤ maxLen) (hp : p ≤ s.size + 1) (hd0 : 0 < d) (hd : d ≤ 6) :
    Calls Tryd.prog 59 #[.string s, .int .i64 p, .int .i64 d] w fun e w' => e = .returned (.int .i64 (unhexZ s p d)) ∧ w = w' := by
  unfold maxLen at hs
  by_cases hl : s.size < p + d
  · have H := Lib.hid (unhexZ_none (hexN_out (s := s) (p := p) hd0 (by omega)))
    go_enter Tryd.func59, Tryd.ntmps59
    go_wp2
    go_ret
    exact ⟨ret_int H.out.symm, rfl⟩
  have q0 : decide ((s.size : Int) - (p : Int) < (d : Int)) = false := decide_eq_false (by omega)
  go_enter Tryd.func59, Tryd.ntmps59
  go_wp2
  go_loop [7, 8] (fun n i => ∃ (k a : Nat), k ≤ d ∧ i = .int .i64 k ∧ n = .int .i64 a ∧ hexN s p k = some a) (fun _ i => d - (intOf i).toNat)
  case atStart => exact ⟨0, 0, by omega, rfl, rfl, rfl⟩
  case round =>
    obtain ⟨k, a, hk, rfl, rfl, hN⟩ := hrel
    have HN := Lib.hid hN
    have hlt16 := hexN_lt hN
    clear hN
    by_cases hlt : k < d
    · have ha : a < 1048576 := by
        have : 16 ^ k ≤ 16 ^ 5 := Nat.pow_le_pow_right (by omega) (by omega)
        omega
      clear hlt16
      have hkt : p + k < s.size := by omega
      have HB := Lib.hid (byteN_at s (p + k) hkt)
      have hb2 : s[p + k].toNat < 256 := s[p + k].toNat_lt
      cases hv : hexV (byteN s (p + k)) with
      | none =>
        have HZ := Lib.hid (unhexZ_none (hexN_none (hexN_succ_none HN.out hv) hlt))
        have hv2 : hexV (s[p + k].toNat) = none := by rw [HB.out]; exact hv
        clear hv
        have ⟨c1, c2, c3⟩ := hexV_none hv2
        clear hv2
        by_cases a1 : s[p + k].toNat < 48
        · go_wp2
          go_ret
          exact ⟨ret_int HZ.out.symm, rfl⟩
        by_cases a2 : s[p + k].toNat < 65
        · have q1 : decide ((s[p + k].toNat : Int) ≤ 57) = false := decide_eq_false (by omega)
          go_wp2
          go_ret
          exact ⟨ret_int HZ.out.symm, rfl⟩
        by_cases a3 : s[p + k].toNat < 97
        · have q1 : decide ((s[p + k].toNat : Int) ≤ 57) = false := decide_eq_false (by omega)
          have q2 : decide ((s[p + k].toNat : Int) ≤ 70) = false := decide_eq_false (by omega)
          go_wp2
          go_ret
          exact ⟨ret_int HZ.out.symm, rfl⟩
        · have q1 : decide ((s[p + k].toNat : Int) ≤ 57) = false := decide_eq_false (by omega)
          have q2 : decide ((s[p + k].toNat : Int) ≤ 70) = false := decide_eq_false (by omega)
          have q3 : decide ((s[p + k].toNat : Int) ≤ 102) = false := decide_eq_false (by omega)
          go_wp2
          go_ret
          exact ⟨ret_int HZ.out.symm, rfl⟩
      | some v =>
        have HS := Lib.hid (hexN_succ_some HN.out hv)
        have hv2 : hexV (s[p + k].toNat) = some v := by rw [HB.out]; exact hv
        clear hv
        have hc := hexV_some hv2
        clear hv2
        rcases hc with ⟨c1, c2, hvv⟩ | ⟨c1, c2, hvv⟩ | ⟨c1, c2, hvv⟩
        · have HV := Lib.hid hvv
          clear hvv
          go_wp2
          go_round
          case rel => exact ⟨k + 1, a * 16 + v, by omega, by go_num, by rw [HV.out]; go_num, HS.out⟩
          case measure => simp [intOf]; omega
        · have HV := Lib.hid hvv
          clear hvv
          have q1 : decide ((s[p + k].toNat : Int) ≤ 57) = false := decide_eq_false (by omega)
          go_wp2
          go_round
          case rel => exact ⟨k + 1, a * 16 + v, by omega, by go_num, by rw [HV.out]; go_num, HS.out⟩
          case measure => simp [intOf]; omega
        · have HV := Lib.hid hvv
          clear hvv
          have q1 : decide ((s[p + k].toNat : Int) ≤ 57) = false := decide_eq_false (by omega)
          go_wp2
          go_round
          case rel => exact ⟨k + 1, a * 16 + v, by omega, by go_num, by rw [HV.out]; go_num, HS.out⟩
          case measure => simp [intOf]; omega
    · obtain rfl : k = d := by omega
      have HZ := Lib.hid (unhexZ_some HN.out)
      go_wp2
      go_ret
      exact ⟨ret_int HZ.out.symm, rfl⟩
end Go.Proofs.YtgakophdgjepmaaDoor
