/- The reference's Step: one rune at a place, as the model decodes it. -/
import Derived.Test.YtgakophdgjepmaaDoorUtf
import Derived.Test.YtgakophdgjepmaaDoorLeaf
import Derived.Lib.Hide
namespace Go.Proofs.YtgakophdgjepmaaDoor
open Go.RowKit

set_option maxRecDepth 100000 in
theorem step_end (s : ByteArray) (i : Nat) (w : World) (hi : s.size ≤ i) (hm : i ≤ maxLen) :
    Calls Tryd.prog 32 #[.string s, .int .i64 i] w fun e w' => e = .returned (.tuple #[.int .i64 0, .int .i64 0]) ∧ w = w' := by
  unfold maxLen at hm
  go_enter Tryd.func32, Tryd.ntmps32
  go_wp2
  go_ret2
  exact ⟨rfl, rfl⟩

set_option maxRecDepth 100000 in
theorem step_ascii (s : ByteArray) (i : Nat) (w : World) (hi : i < s.size) (hs : s.size ≤ maxLen) (h : s[i].toNat < 128) :
    Calls Tryd.prog 32 #[.string s, .int .i64 i] w fun e w' => e = .returned (.tuple #[.int .i64 s[i].toNat, .int .i64 1]) ∧ w = w' := by
  unfold maxLen at hs
  have hb : s[i].toNat < 256 := s[i].toNat_lt
  go_enter Tryd.func32, Tryd.ntmps32
  go_wp2
  go_ret2
  exact ⟨rfl, rfl⟩
set_option maxRecDepth 100000 in
theorem step_other (s : ByteArray) (i : Nat) (w : World) (hi : i < s.size) (hs : s.size ≤ maxLen) (h : 128 ≤ s[i].toNat ∧ s[i].toNat < 192 ∨ 248 ≤ s[i].toNat) :
    Calls Tryd.prog 32 #[.string s, .int .i64 i] w fun e w' => e = .returned (.tuple #[.int .i64 (-1), .int .i64 1]) ∧ w = w' := by
  unfold maxLen at hs
  have hb : s[i].toNat < 256 := s[i].toNat_lt
  rcases h with ⟨h1, h2⟩ | h2
  · go_enter Tryd.func32, Tryd.ntmps32
    go_wp2
    go_ret2
    exact ⟨rfl, rfl⟩
  · go_enter Tryd.func32, Tryd.ntmps32
    go_wp2
    go_ret2
    exact ⟨rfl, rfl⟩

theorem ret_pair {a b c d : Int} (h : a = c ∧ b = d) : Ending.returned (.tuple #[.int .i64 a, .int .i64 b]) = .returned (.tuple #[.int .i64 c, .int .i64 d]) := by rw [h.1, h.2]

/-- What Step tells of a place. -/
def stepped (s : ByteArray) (i : Nat) : Ending := .returned (.tuple #[.int .i64 (stepZ s i), .int .i64 (Utf8.decode s i).2])
theorem stepped_of {s : ByteArray} {i : Nat} {a b : Int} (h : stepZ s i = a ∧ ((Utf8.decode s i).2 : Int) = b) : Ending.returned (.tuple #[.int .i64 a, .int .i64 b]) = stepped s i := by unfold stepped; rw [h.1, h.2]
theorem bad_of {s : ByteArray} {i : Nat} (h : stepZ s i = -1 ∧ (Utf8.decode s i).2 = 1) : Ending.returned (.tuple #[.int .i64 (-1), .int .i64 1]) = stepped s i := stepped_of ⟨h.1, by rw [h.2]; rfl⟩


theorem acc_start (s : ByteArray) (i b lo : Nat) (h : lo ≤ b) : Value.int .i64 ((b : Int) - (lo : Int)) = .int .i64 (accN s i (b - lo) 1) := by
  show _ = Value.int .i64 ((b - lo : Nat) : Int)
  rw [Int.ofNat_sub h]
theorem acc_next {s : ByteArray} {i r0 j c : Nat} (h : 1 ≤ j) (hc : 128 ≤ c) (e : c = byteN s (i + j)) : Value.int .i64 ((accN s i r0 j : Int) * 64 + (c : Int) - 128) = .int .i64 (accN s i r0 (j + 1)) := by
  rw [accN_succ s i r0 j h, ← e]
  congr 1
  omega
theorem acc3 {s : ByteArray} {i r0 j : Nat} (h : accN s i r0 1 ≤ 31 ∧ accN s i r0 2 ≤ 2111 ∧ accN s i r0 3 ≤ 135231 ∧ accN s i r0 4 ≤ 8654911) (h1 : 1 ≤ j) (h3 : j ≤ 3) : accN s i r0 j ≤ 135231 := by
  obtain rfl | rfl | rfl : j = 1 ∨ j = 2 ∨ j = 3 := by omega
  all_goals omega
theorem good_of {s : ByteArray} {i a n : Nat} (h : stepZ s i = a ∧ (Utf8.decode s i).2 = n) : stepZ s i = a ∧ ((Utf8.decode s i).2 : Int) = n := ⟨h.1, by rw [h.2]⟩

set_option maxHeartbeats 1000000 in
set_option maxRecDepth 100000 in
theorem step_lead (s : ByteArray) (i n low lo hi : Nat) (w : World) (hi0 : i < s.size) (hs : s.size ≤ maxLen) (hL : Lead n low lo hi) (h : lo ≤ s[i].toNat ∧ s[i].toNat < hi) :
    Calls Tryd.prog 32 #[.string s, .int .i64 i] w fun e w' => e = stepped s i ∧ w = w' := by
  unfold maxLen at hs
  have hb : s[i].toNat < 256 := s[i].toNat_lt
  have HB : Hid (s[i].toNat = byteN s i) := byteN_at s i hi0
  have HL := Lib.hid hL
  have H0 : Hid (lo ≤ byteN s i ∧ byteN s i < hi) := by rw [← byteN_at s i hi0]; exact h
  obtain ⟨h1, h2⟩ := h
  rcases hL with ⟨rfl, rfl, rfl, rfl⟩ | ⟨rfl, rfl, rfl, rfl⟩ | ⟨rfl, rfl, rfl, rfl⟩
  · by_cases hl : s.size < i + 2
    · go_enter Tryd.func32, Tryd.ntmps32
      go_wp2
      go_ret2
      exact ⟨bad_of (lead_bad s i _ _ _ _ HL.out H0.out (.inl hl)), rfl⟩
    · have q1 : decide ((s.size : Int) - (i : Int) ≤ 0) = false := decide_eq_false (by omega)
      have q2 : decide ((s[i].toNat : Int) < 128) = false := decide_eq_false (by omega)
      have q3 : decide ((s.size : Int) - (i : Int) < 2) = false := decide_eq_false (by omega)
      have q224 : decide ((s[i].toNat : Int) < 224) = true := decide_eq_true (by omega)
      go_enter Tryd.func32, Tryd.ntmps32
      go_wp2
      go_loop [10, 11] (fun r k => ∃ j : Nat, 1 ≤ j ∧ j ≤ 2 ∧ k = .int .i64 j ∧ r = .int .i64 (accN s i (s[i].toNat - 192) j) ∧ Conts s i j) (fun _ k => 2 - (intOf k).toNat)
      case atStart => exact ⟨1, by omega, by omega, rfl, acc_start s i _ 192 h1, Conts.one s i⟩
      case round =>
        obtain ⟨j, hj1, hj2, rfl, rfl, hC⟩ := hrel
        have hbd := accN_le s i (s[i].toNat - 192) (by omega)
        by_cases hlt : j < 2
        · have hij : i + j < s.size := by omega
          have hbj : s[i + j].toNat < 256 := s[i + j].toNat_lt
          have HJ : Hid (s[i + j].toNat = byteN s (i + j)) := byteN_at s (i + j) hij
          have ha : accN s i (s[i].toNat - 192) j ≤ 135231 := acc3 hbd hj1 (by omega)
          clear hbd
          by_cases c1 : s[i + j].toNat < 128
          · go_wp2
            go_ret2
            exact ⟨bad_of (lead_bad s i _ _ _ _ HL.out H0.out (.inr (.inl ⟨j, hj1, hlt, .inl (by rw [← HJ.out]; exact c1)⟩))), rfl⟩
          · by_cases c2 : 192 ≤ s[i + j].toNat
            · go_wp2
              go_ret2
              exact ⟨bad_of (lead_bad s i _ _ _ _ HL.out H0.out (.inr (.inl ⟨j, hj1, hlt, .inr (by rw [← HJ.out]; exact c2)⟩))), rfl⟩
            · go_wp2
              go_round
              case rel => exact ⟨j + 1, by omega, by omega, by go_num, acc_next hj1 (by omega) HJ.out, hC.succ (by rw [← HJ.out]; omega) (by rw [← HJ.out]; omega)⟩
              case measure => simp [intOf]; omega
        · obtain rfl : j = 2 := by omega
          have HG := lead_good s i _ _ _ _ HL.out H0.out (by omega) hC
          have HN := lead_bad s i _ _ _ _ HL.out H0.out
          rw [← HB.out] at HG HN
          have HG' := Lib.hid HG
          have HN' := Lib.hid HN
          clear HG HN hC
          generalize accN s i (s[i].toNat - 192) 2 = a at *
          by_cases d1 : a < 128
          · go_wp2
            all_goals (go_ret2; exact ⟨bad_of (HN'.out (.inr (.inr (.inl d1)))), rfl⟩)
          by_cases d2 : 1114111 < a
          · go_wp2
            all_goals (go_ret2; exact ⟨bad_of (HN'.out (.inr (.inr (.inr (.inl d2))))), rfl⟩)
          by_cases d3 : 55296 ≤ a
          · by_cases d4 : a ≤ 57343
            · go_wp2
              all_goals (go_ret2; exact ⟨bad_of (HN'.out (.inr (.inr (.inr (.inr ⟨d3, d4⟩))))), rfl⟩)
            · go_wp2
              all_goals (go_ret2; exact ⟨stepped_of (good_of (HG'.out (by omega) (by omega) (by omega))), rfl⟩)
          · go_wp2
            all_goals (go_ret2; exact ⟨stepped_of (good_of (HG'.out (by omega) (by omega) (by omega))), rfl⟩)
  · by_cases hl : s.size < i + 3
    · go_enter Tryd.func32, Tryd.ntmps32
      go_wp2
      go_ret2
      exact ⟨bad_of (lead_bad s i _ _ _ _ HL.out H0.out (.inl hl)), rfl⟩
    · have q1 : decide ((s.size : Int) - (i : Int) ≤ 0) = false := decide_eq_false (by omega)
      have q2 : decide ((s[i].toNat : Int) < 128) = false := decide_eq_false (by omega)
      have q3 : decide ((s.size : Int) - (i : Int) < 3) = false := decide_eq_false (by omega)
      have q224 : decide ((s[i].toNat : Int) < 224) = false := decide_eq_false (by omega)
      have q240 : decide ((s[i].toNat : Int) < 240) = true := decide_eq_true (by omega)
      go_enter Tryd.func32, Tryd.ntmps32
      go_wp2
      go_loop [10, 11] (fun r k => ∃ j : Nat, 1 ≤ j ∧ j ≤ 3 ∧ k = .int .i64 j ∧ r = .int .i64 (accN s i (s[i].toNat - 224) j) ∧ Conts s i j) (fun _ k => 3 - (intOf k).toNat)
      case atStart => exact ⟨1, by omega, by omega, rfl, acc_start s i _ 224 h1, Conts.one s i⟩
      case round =>
        obtain ⟨j, hj1, hj2, rfl, rfl, hC⟩ := hrel
        have hbd := accN_le s i (s[i].toNat - 224) (by omega)
        by_cases hlt : j < 3
        · have hij : i + j < s.size := by omega
          have hbj : s[i + j].toNat < 256 := s[i + j].toNat_lt
          have HJ : Hid (s[i + j].toNat = byteN s (i + j)) := byteN_at s (i + j) hij
          have ha : accN s i (s[i].toNat - 224) j ≤ 135231 := acc3 hbd hj1 (by omega)
          clear hbd
          by_cases c1 : s[i + j].toNat < 128
          · go_wp2
            go_ret2
            exact ⟨bad_of (lead_bad s i _ _ _ _ HL.out H0.out (.inr (.inl ⟨j, hj1, hlt, .inl (by rw [← HJ.out]; exact c1)⟩))), rfl⟩
          · by_cases c2 : 192 ≤ s[i + j].toNat
            · go_wp2
              go_ret2
              exact ⟨bad_of (lead_bad s i _ _ _ _ HL.out H0.out (.inr (.inl ⟨j, hj1, hlt, .inr (by rw [← HJ.out]; exact c2)⟩))), rfl⟩
            · go_wp2
              go_round
              case rel => exact ⟨j + 1, by omega, by omega, by go_num, acc_next hj1 (by omega) HJ.out, hC.succ (by rw [← HJ.out]; omega) (by rw [← HJ.out]; omega)⟩
              case measure => simp [intOf]; omega
        · obtain rfl : j = 3 := by omega
          have HG := lead_good s i _ _ _ _ HL.out H0.out (by omega) hC
          have HN := lead_bad s i _ _ _ _ HL.out H0.out
          rw [← HB.out] at HG HN
          have HG' := Lib.hid HG
          have HN' := Lib.hid HN
          clear HG HN hC
          generalize accN s i (s[i].toNat - 224) 3 = a at *
          by_cases d1 : a < 2048
          · go_wp2
            all_goals (go_ret2; exact ⟨bad_of (HN'.out (.inr (.inr (.inl d1)))), rfl⟩)
          by_cases d2 : 1114111 < a
          · go_wp2
            all_goals (go_ret2; exact ⟨bad_of (HN'.out (.inr (.inr (.inr (.inl d2))))), rfl⟩)
          by_cases d3 : 55296 ≤ a
          · by_cases d4 : a ≤ 57343
            · go_wp2
              all_goals (go_ret2; exact ⟨bad_of (HN'.out (.inr (.inr (.inr (.inr ⟨d3, d4⟩))))), rfl⟩)
            · go_wp2
              all_goals (go_ret2; exact ⟨stepped_of (good_of (HG'.out (by omega) (by omega) (by omega))), rfl⟩)
          · go_wp2
            all_goals (go_ret2; exact ⟨stepped_of (good_of (HG'.out (by omega) (by omega) (by omega))), rfl⟩)
  · by_cases hl : s.size < i + 4
    · go_enter Tryd.func32, Tryd.ntmps32
      go_wp2
      go_ret2
      exact ⟨bad_of (lead_bad s i _ _ _ _ HL.out H0.out (.inl hl)), rfl⟩
    · have q1 : decide ((s.size : Int) - (i : Int) ≤ 0) = false := decide_eq_false (by omega)
      have q2 : decide ((s[i].toNat : Int) < 128) = false := decide_eq_false (by omega)
      have q3 : decide ((s.size : Int) - (i : Int) < 4) = false := decide_eq_false (by omega)
      have q224 : decide ((s[i].toNat : Int) < 224) = false := decide_eq_false (by omega)
      have q240 : decide ((s[i].toNat : Int) < 240) = false := decide_eq_false (by omega)
      have q248 : decide ((s[i].toNat : Int) < 248) = true := decide_eq_true (by omega)
      go_enter Tryd.func32, Tryd.ntmps32
      go_wp2
      go_loop [10, 11] (fun r k => ∃ j : Nat, 1 ≤ j ∧ j ≤ 4 ∧ k = .int .i64 j ∧ r = .int .i64 (accN s i (s[i].toNat - 240) j) ∧ Conts s i j) (fun _ k => 4 - (intOf k).toNat)
      case atStart => exact ⟨1, by omega, by omega, rfl, acc_start s i _ 240 h1, Conts.one s i⟩
      case round =>
        obtain ⟨j, hj1, hj2, rfl, rfl, hC⟩ := hrel
        have hbd := accN_le s i (s[i].toNat - 240) (by omega)
        by_cases hlt : j < 4
        · have hij : i + j < s.size := by omega
          have hbj : s[i + j].toNat < 256 := s[i + j].toNat_lt
          have HJ : Hid (s[i + j].toNat = byteN s (i + j)) := byteN_at s (i + j) hij
          have ha : accN s i (s[i].toNat - 240) j ≤ 135231 := acc3 hbd hj1 (by omega)
          clear hbd
          by_cases c1 : s[i + j].toNat < 128
          · go_wp2
            go_ret2
            exact ⟨bad_of (lead_bad s i _ _ _ _ HL.out H0.out (.inr (.inl ⟨j, hj1, hlt, .inl (by rw [← HJ.out]; exact c1)⟩))), rfl⟩
          · by_cases c2 : 192 ≤ s[i + j].toNat
            · go_wp2
              go_ret2
              exact ⟨bad_of (lead_bad s i _ _ _ _ HL.out H0.out (.inr (.inl ⟨j, hj1, hlt, .inr (by rw [← HJ.out]; exact c2)⟩))), rfl⟩
            · go_wp2
              go_round
              case rel => exact ⟨j + 1, by omega, by omega, by go_num, acc_next hj1 (by omega) HJ.out, hC.succ (by rw [← HJ.out]; omega) (by rw [← HJ.out]; omega)⟩
              case measure => simp [intOf]; omega
        · obtain rfl : j = 4 := by omega
          have HG := lead_good s i _ _ _ _ HL.out H0.out (by omega) hC
          have HN := lead_bad s i _ _ _ _ HL.out H0.out
          rw [← HB.out] at HG HN
          have HG' := Lib.hid HG
          have HN' := Lib.hid HN
          clear HG HN hC
          generalize accN s i (s[i].toNat - 240) 4 = a at *
          by_cases d1 : a < 65536
          · go_wp2
            all_goals (go_ret2; exact ⟨bad_of (HN'.out (.inr (.inr (.inl d1)))), rfl⟩)
          by_cases d2 : 1114111 < a
          · go_wp2
            all_goals (go_ret2; exact ⟨bad_of (HN'.out (.inr (.inr (.inr (.inl d2))))), rfl⟩)
          by_cases d3 : 55296 ≤ a
          · by_cases d4 : a ≤ 57343
            · go_wp2
              all_goals (go_ret2; exact ⟨bad_of (HN'.out (.inr (.inr (.inr (.inr ⟨d3, d4⟩))))), rfl⟩)
            · go_wp2
              all_goals (go_ret2; exact ⟨stepped_of (good_of (HG'.out (by omega) (by omega) (by omega))), rfl⟩)
          · go_wp2
            all_goals (go_ret2; exact ⟨stepped_of (good_of (HG'.out (by omega) (by omega) (by omega))), rfl⟩)

set_option maxRecDepth 100000 in
theorem step_any (s : ByteArray) (i : Nat) (w : World) (hi : i < s.size) (hs : s.size ≤ maxLen) :
    Calls Tryd.prog 32 #[.string s, .int .i64 i] w fun e w' => e = stepped s i ∧ w = w' := by
  have hb : s[i].toNat < 256 := s[i].toNat_lt
  have e0 := byteN_at s i hi
  by_cases h1 : s[i].toNat < 128
  · refine (step_ascii s i w hi hs h1).mono ?_
    rintro e w' ⟨rfl, rfl⟩
    have := stepZ_good (dec_one s i (by omega)) (.inr (by omega))
    exact ⟨stepped_of ⟨by rw [this.1, e0], by rw [this.2]; rfl⟩, rfl⟩
  by_cases h2 : s[i].toNat < 192 ∨ 248 ≤ s[i].toNat
  · refine (step_other s i w hi hs (by omega)).mono ?_
    rintro e w' ⟨rfl, rfl⟩
    exact ⟨bad_of (stepZ_bad (dec_none s i (by omega))), rfl⟩
  by_cases h3 : s[i].toNat < 224
  · exact step_lead s i 2 128 192 224 w hi hs (.inl ⟨rfl, rfl, rfl, rfl⟩) (by omega)
  by_cases h4 : s[i].toNat < 240
  · exact step_lead s i 3 2048 224 240 w hi hs (.inr (.inl ⟨rfl, rfl, rfl, rfl⟩)) (by omega)
  · exact step_lead s i 4 65536 240 248 w hi hs (.inr (.inr ⟨rfl, rfl, rfl, rfl⟩)) (by omega)
end Go.Proofs.YtgakophdgjepmaaDoor
