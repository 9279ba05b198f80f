/- The reference's turned of layer 3. -/
import Derived.Test.YtpbljcjghjbjdaaRrAway
import Derived.Test.YtpbljcjghjbjdaaRrQuo
namespace Go.Proofs.Ytpbljcjghjbjdaa
open Go.RowKit
attribute [local go_sem ↓] Go.wp_at_zero Go.wp_at_succ

set_option maxHeartbeats 2000000 in
theorem turned_core_t (neg : Bool) (mode ec : Int) (D U Q R Q1 : ByteArray) (w : World) (H1 : (∀ wx : World, Calls Try.prog 37 #[.string D, .string U] wx fun r w' => r = .returned (.tuple #[.string Q, .string R]) ∧ Below wx.heap.size wx w')) (H2 : (∀ wx : World, Calls Try.prog 38 #[.int .i64 mode, .bool neg, .string Q, .string R, .string U] wx fun r w' => r = .returned (.tuple #[.bool true, .int .i64 ec]) ∧ Below wx.heap.size wx w')) (H3 : (∀ wx : World, Calls Try.prog 39 #[.string Q, .string ⟨#[49]⟩] wx fun r w' => r = .returned (.string Q1) ∧ Below wx.heap.size wx w')) :
    Calls Try.prog 18 #[.int .i64 mode, .bool neg, .string D, .string U] w fun r w' => r = .returned (.tuple #[.string Q1, .int .i64 ec]) ∧ Below w.heap.size w w' := by
  have D1 := Lib.hid H1
  have D2 := Lib.hid H2
  have D3 := Lib.hid H3
  clear H1 H2 H3
  go_enter Try.func18, Try.ntmps18
  go_wp2_with fail
  (with_reducible refine (D1.out _).mono ?_)
  rintro e w1 ⟨rfl, hb1⟩
  have B1 := Lib.hid hb1
  clear hb1
  go_wp2_with fail
  (with_reducible refine (D2.out _).mono ?_)
  rintro e w2 ⟨rfl, hb2⟩
  have B2 := Lib.hid (B1.out.trans (hb2.mono B1.out.size))
  clear hb2
  go_wp2_with fail
  (with_reducible refine (D3.out _).mono ?_)
  rintro e w3 ⟨rfl, hb3⟩
  have B3 := Lib.hid (B2.out.trans (hb3.mono B2.out.size))
  clear hb3
  go_wp2
  exact bodyPost_ret (v := .tuple #[.string Q1, .int .i64 ec]) (by simp [results, Try.results18, go_sem]) rfl ⟨rfl, B3.out⟩

set_option maxHeartbeats 2000000 in
theorem turned_core_f (neg : Bool) (mode ec : Int) (D U Q R : ByteArray) (w : World) (H1 : (∀ wx : World, Calls Try.prog 37 #[.string D, .string U] wx fun r w' => r = .returned (.tuple #[.string Q, .string R]) ∧ Below wx.heap.size wx w')) (H2 : (∀ wx : World, Calls Try.prog 38 #[.int .i64 mode, .bool neg, .string Q, .string R, .string U] wx fun r w' => r = .returned (.tuple #[.bool false, .int .i64 ec]) ∧ Below wx.heap.size wx w')) :
    Calls Try.prog 18 #[.int .i64 mode, .bool neg, .string D, .string U] w fun r w' => r = .returned (.tuple #[.string Q, .int .i64 ec]) ∧ Below w.heap.size w w' := by
  have D1 := Lib.hid H1
  have D2 := Lib.hid H2

  clear H1 H2
  go_enter Try.func18, Try.ntmps18
  go_wp2_with fail
  (with_reducible refine (D1.out _).mono ?_)
  rintro e w1 ⟨rfl, hb1⟩
  have B1 := Lib.hid hb1
  clear hb1
  go_wp2_with fail
  (with_reducible refine (D2.out _).mono ?_)
  rintro e w2 ⟨rfl, hb2⟩
  have B2 := Lib.hid (B1.out.trans (hb2.mono B1.out.size))
  clear hb2
  go_wp2
  exact bodyPost_ret (v := .tuple #[.string Q, .int .i64 ec]) (by simp [results, Try.results18, go_sem]) rfl ⟨rfl, B2.out⟩

theorem one_text : (⟨#[49]⟩ : ByteArray) = dStr [1] := rfl
theorem away_all (mode : Int) (neg : Bool) (Q R U : Nat) (m1 : 1 ≤ mode) (m7 : mode ≤ 7) (h0 : R ≠ 0) (hq : (digs Q).length ≤ 1000) (hr : (digs R).length ≤ 1000) (hu : (digs U).length ≤ 1000) (w : World) :
    Calls Try.prog 38 #[.int .i64 mode, .bool neg, .string (dStr (digs Q)), .string (dStr (digs R)), .string (dStr (digs U))] w fun r w' => r = .returned (.tuple #[.bool (upB mode neg (decide (Q % 2 = 1)) (cmpN (2 * R) U)), .int .i64 0]) ∧ Below w.heap.size w w' := by
  have HA := fun wx => radd_any (digs R) (digs R) wx (digs_digs R) (digs_digs R) (digs_len R) (by omega) (by omega)
  have len : (digs (R + R)).length ≤ 2000 := by
    have h1 := (digs_le R (digs R).length (digs_len R)).1 (Nat.le_refl _)
    have h2 := (digs_le (R + R) ((digs R).length + 1) (by omega)).2 (by rw [Nat.pow_succ]; omega)
    omega
  rw [dVal_digs] at HA
  have HC := fun wx => rcmp_any (digs (R + R)) (digs U) wx (digs_digs _) (digs_digs _) (by omega) (by omega)
  rw [dVal_digs, dVal_digs, ← Nat.two_mul] at HC
  rw [← Nat.two_mul] at HA
  rcases (by omega : mode = 1 ∨ mode = 2 ∨ mode = 3 ∨ mode = 4 ∨ mode = 5 ∨ mode = 6 ∨ mode = 7) with rfl | rfl | rfl | rfl | rfl | rfl | rfl
  · have := away_1 neg _ Q R _ _ _ w h0 (by omega) rfl HA HC
    rw [show upB 1 neg (decide (Q % 2 = 1)) (cmpN (2 * R) U) = true by unfold upB; simp]
    exact this
  · have := away_2 neg _ Q R _ _ _ w h0 (by omega) rfl HA HC
    rw [show upB 2 neg (decide (Q % 2 = 1)) (cmpN (2 * R) U) = false by unfold upB; simp]
    exact this
  · have := away_3 neg _ Q R _ _ _ w h0 (by omega) rfl HA HC
    rw [show upB 3 neg (decide (Q % 2 = 1)) (cmpN (2 * R) U) = !neg by unfold upB; simp]
    exact this
  · have := away_4 neg _ Q R _ _ _ w h0 (by omega) rfl HA HC
    rw [show upB 4 neg (decide (Q % 2 = 1)) (cmpN (2 * R) U) = neg by unfold upB; simp]
    exact this
  · have := away_5 neg _ Q R _ _ _ w h0 (by omega) rfl HA HC
    rw [show upB 5 neg (decide (Q % 2 = 1)) (cmpN (2 * R) U) = decide (0 ≤ cmpN (2 * R) U) by
      unfold upB
      generalize cmpN (2 * R) U = c
      by_cases c1 : 0 < c
      · rw [decide_eq_true c1, decide_eq_true (show 0 ≤ c by omega)]; simp
      · by_cases c2 : c = 0
        · subst c2; simp
        · rw [decide_eq_false c1, decide_eq_false c2, decide_eq_false (show ¬ 0 ≤ c by omega)]; simp]
    exact this
  · have := away_6 neg _ Q R _ _ _ w h0 (by omega) rfl HA HC
    rw [show upB 6 neg (decide (Q % 2 = 1)) (cmpN (2 * R) U) = decide (0 < cmpN (2 * R) U) by unfold upB; simp]
    exact this
  · have := away_7 neg _ Q R _ _ _ w h0 (by omega) rfl HA HC
    rw [show upB 7 neg (decide (Q % 2 = 1)) (cmpN (2 * R) U) = (decide (0 < cmpN (2 * R) U) || (decide (cmpN (2 * R) U = 0) && decide (Q % 2 = 1))) by unfold upB; simp]
    exact this

theorem rturned_both (mode : Int) (neg : Bool) (la : List Nat) (U : Nat) (w : World) (m1 : 1 ≤ mode) (m8 : mode ≤ 8) (h0 : 0 < U) (hd : Digs la) (hx : la.length ≤ 500) (hy : (digs U).length ≤ 500) :
    Calls Try.prog 18 #[.int .i64 mode, .bool neg, .string (dStr la), .string (dStr (digs U))] w fun r w' => r = .returned (if mode = 8 ∧ dVal la % U ≠ 0 then .tuple #[.string (dStr (digs (dVal la / U))), .int .i64 31] else .tuple #[.string (dStr (digs (roQ mode neg (dVal la) U))), .int .i64 0]) ∧ Below w.heap.size w w' := by
  have H1 := fun wx => rquo_any la U wx h0 hd (by omega) (by omega)
  have lq : (digs (dVal la / U)).length ≤ 501 := by
    have := (digs_le (dVal la / U) (max 1 la.length) (by omega)).2 (Nat.lt_of_le_of_lt (Nat.div_le_self _ _) (Nat.lt_of_lt_of_le (dVal_lt hd) (Nat.pow_le_pow_right (by omega) (by omega))))
    omega
  have lr : (digs (dVal la % U)).length ≤ 501 := by
    have := (digs_le (dVal la % U) (max 1 la.length) (by omega)).2 (Nat.lt_of_le_of_lt (Nat.mod_le _ _) (Nat.lt_of_lt_of_le (dVal_lt hd) (Nat.pow_le_pow_right (by omega) (by omega))))
    omega
  generalize hq : dVal la / U = Q at *
  generalize hr : dVal la % U = R at *
  have hroq : roQ mode neg (dVal la) U = Q + if decide (R ≠ 0) && upB mode neg (decide (Q % 2 = 1)) (cmpN (2 * R) U) then 1 else 0 := by unfold roQ; rw [hq, hr]
  by_cases hR : R = 0
  · rw [if_neg (fun h => h.2 hR), hroq, hR]
    rw [hR] at H1
    exact turned_core_f neg mode 0 _ _ _ _ w H1 (fun wx => away_zero mode neg _ _ wx)
  · by_cases hm : mode = 8
    · rw [if_pos ⟨hm, hR⟩]
      subst hm
      have HA := fun wx => radd_any (digs R) (digs R) wx (digs_digs R) (digs_digs R) (digs_len R) (by omega) (by omega)
      rw [dVal_digs] at HA
      have len : (digs (R + R)).length ≤ 2000 := by
        have h1 := (digs_le R (digs R).length (digs_len R)).1 (Nat.le_refl _)
        have h2 := (digs_le (R + R) ((digs R).length + 1) (by omega)).2 (by rw [Nat.pow_succ]; omega)
        omega
      have HC := fun wx => rcmp_any (digs (R + R)) (digs U) wx (digs_digs _) (digs_digs _) (by omega) (by omega)
      exact turned_core_f neg 8 31 _ _ _ _ w H1 (fun wx => away_8 neg _ Q R _ _ _ wx hR (by omega) rfl HA HC)
    · rw [if_neg (fun h => hm h.1), hroq, decide_eq_true hR, Bool.true_and]
      have H2 := fun wx => away_all mode neg Q R U m1 (by omega) hR (by omega) (by omega) (by omega) wx
      cases hup : upB mode neg (decide (Q % 2 = 1)) (cmpN (2 * R) U) with
      | false =>
        rw [hup] at H2
        exact turned_core_f neg mode 0 _ _ _ _ w H1 H2
      | true =>
        rw [hup] at H2
        have H3 := fun wx => radd_any (digs Q) [1] wx (digs_digs Q) (Digs.cons (by omega) Digs.nil) (digs_len Q) (by omega) (by decide)
        rw [dVal_digs, dVal_one, ← one_text] at H3
        exact turned_core_t neg mode 0 _ _ _ _ _ w H1 H2 H3
end Go.Proofs.Ytpbljcjghjbjdaa
