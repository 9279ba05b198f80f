/- awake of the laws of layer 3, of the program alone. -/
import Derived.Test.YtpbljcjghjbjdaaDoorRoPair
namespace Go.Proofs.YtpbljcjghjbjdaaDoor
open Go.RowKit
attribute [local go_sem ↓] Go.wp_at_zero Go.wp_at_succ

theorem plp_ok (d : Dc) (mode : Int) (m : Nat) (hd : d.Ok) (m1 : 1 ≤ mode) (m8 : mode ≤ 8) (hm : m ≤ 40) (hle : ¬ d.f.length ≤ m) (h8 : ¬ (mode = 8 ∧ d.num % 10 ^ (d.f.length - m) ≠ 0)) :
    ∃ x, mkN d.neg (roQ mode d.neg d.num (10 ^ (d.f.length - m))) m = some x ∧ PlP mode m d.neg (dStr d.i) (dStr d.f) (RES (some x)) := by
  have sz : (dStr d.f).size = d.f.length := dStr_size d.f
  have szi : (dStr d.i).size = d.i.length := dStr_size d.i
  have hmost := hd.most
  have hb1 : (dStr d.i).size ≤ 140737488355328 := by omega
  have hb2 : (dStr d.f).size ≤ 140737488355328 := by omega
  have hmB : modeB mode = true := by unfold modeB; rw [decide_eq_true m1, decide_eq_true m8]; rfl
  have hE : modeE (okB d.neg (dStr d.i) (dStr d.f)) mode = 0 := by unfold modeE; rw [ok_of hd, hmB]; rfl
  have HC := fun wx => checkRange_any d.neg (dStr d.i) (dStr d.f) mode 0 0 m wx hb1 hb2
  have hR : rangeE (okB d.neg (dStr d.i) (dStr d.f)) mode 0 0 m = 0 := by unfold rangeE; rw [if_pos hE, if_neg (by omega)]
  rw [hR] at HC
  have hf := f_lt hd
  obtain ⟨t, t1, t2, t3, t4, t5⟩ := tenth_ok m (by omega)
  have hmax : max d.f.length t.f.length = d.f.length := by omega
  have hX : d.raised d.f.length = d.num := by unfold Dc.raised; rw [Nat.sub_self, Nat.pow_zero, Nat.mul_one]
  have hU : t.raised d.f.length = 10 ^ (d.f.length - m) := by unfold Dc.raised; rw [t3, t4, Nat.one_mul]
  have HM := fun wx => multiple_both mode d t wx m1 m8 hd t2 t5 (by omega)
  rw [hmax, hX, hU] at HM
  have HPW := fun wx => power_ok (-(m : Int)) t wx (by omega) (by omega) t1
  have HD : Digs (d.i ++ d.f) := hd.di.append hd.df
  rw [if_neg h8] at HM
  have hro : roD mode d t = mkN d.neg (roQ mode d.neg d.num (10 ^ (d.f.length - m))) m := by
    unfold roD
    rw [hmax, hX, hU, t3, t4, Nat.mul_one]
  rw [hro] at HM
  generalize hQ : roQ mode d.neg d.num (10 ^ (d.f.length - m)) = Q at *
  obtain ⟨P, hP⟩ : ∃ P, P = padTo (m + 1) (digs Q) := ⟨_, rfl⟩
  have hQl : (digs Q).length ≤ 40 := by
    refine (digs_le Q 40 (by omega)).2 ?_
    have hn : d.num < 10 ^ (d.i.length + d.f.length) := by
      have := dVal_lt HD
      rw [List.length_append] at this
      exact this
    have hq : d.num / 10 ^ (d.f.length - m) < 10 ^ (d.i.length + m) := by
      refine Nat.div_lt_of_lt_mul ?_
      rw [← Nat.pow_add]
      rw [show d.f.length - m + (d.i.length + m) = d.i.length + d.f.length by omega]
      exact hn
    have hQ2 : Q ≤ d.num / 10 ^ (d.f.length - m) + 1 := by
      rw [← hQ]
      unfold roQ
      split <;> omega
    have h10 : 10 ^ (d.i.length + m) < 10 ^ (d.i.length + m + 1) := Nat.pow_lt_pow_right (by omega) (by omega)
    have h40 : 10 ^ (d.i.length + m + 1) ≤ 10 ^ 40 := Nat.pow_le_pow_right (by omega) (by omega)
    omega
  have hPl : ¬ 40 < P.length := by rw [hP, padTo_len]; omega
  have hms := made_some (neg := d.neg) hP hPl
  refine ⟨_, hms, fun w => ?_⟩
  · rw [hms] at HM
    have HM2 := fun wx => tp_mult d.neg _ _ mode m _ _ _ _ _ _ _ wx HPW HM (by omega) (by omega) (by omega)
    exact pl_ok d.neg _ _ mode m _ _ _ _ w HC HM2

theorem awake_value : roQ 7 false 25 10 = 2 := by decide
set_option maxHeartbeats 2000000 in
set_option maxRecDepth 100000 in
theorem rawake_any (w : World) : Calls Tryd.prog 19 #[] w fun e w' => e = .returned (.bool true) ∧ Below w.heap.size w w' := by
  have hok : (⟨false, [2], [5]⟩ : Dc).Ok := ⟨fun d hd => by simp at hd; omega, fun d hd => by simp at hd; omega, by decide, by decide, .inl rfl, fun e => by cases e⟩
  have hnum : (⟨false, [2], [5]⟩ : Dc).num = 25 := rfl
  obtain ⟨x, hx, hP⟩ := plp_ok ⟨false, [2], [5]⟩ 7 0 hok (by decide) (by decide) (by omega) (by decide) (by rintro ⟨h, -⟩; exact absurd h (by decide))
  rw [hnum] at hx
  have e : roQ 7 false 25 (10 ^ ((⟨false, [2], [5]⟩ : Dc).f.length - 0)) = 2 := awake_value
  rw [show (⟨false, [2], [5]⟩ : Dc).neg = false from rfl, e, mkN_small _ _ (by decide), digs_one (by omega)] at hx
  obtain rfl := (Option.some.inj hx).symm
  have D1 : Hid (∀ wx : World, Calls Tryd.prog 53 #[.agg #[.bool false, .string ⟨#[50]⟩, .string ⟨#[53]⟩], .int .i64 7, .int .i64 0] wx fun e w' => e = .returned (.tuple #[.agg #[.bool false, .string ⟨#[50]⟩, .string ⟨#[]⟩], .int .i64 0]) ∧ Below wx.heap.size wx w') := hP
  clear hP hx e hnum hok
  go_enter Tryd.func19, Tryd.ntmps19
  go_wp2_with fail
  (with_reducible refine (D1.out _).mono ?_)
  rintro e V1 ⟨rfl, hb⟩
  have HB := Lib.hid hb
  clear hb
  obtain ⟨_, ⟨c0, c1, c2⟩, _⟩ := one_box V1 (.bool false) (.string ⟨#[50]⟩) (.string ⟨#[]⟩) 23
  go_wp2
  go_ret
  exact ⟨rfl, HB.out.alloc HB.out.size _⟩
end Go.Proofs.YtpbljcjghjbjdaaDoor
