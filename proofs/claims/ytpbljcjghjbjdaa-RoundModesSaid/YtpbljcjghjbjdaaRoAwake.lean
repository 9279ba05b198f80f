/- awake of the laws of layer 3. -/
import Derived.Test.YtpbljcjghjbjdaaRoPair
namespace Go.Proofs.Ytpbljcjghjbjdaa
open Go.RowKit
attribute [local go_sem ↓] Go.wp_at_zero Go.wp_at_succ

theorem awake_value : roQ 7 false 25 10 = 2 := by decide
set_option maxHeartbeats 2000000 in
set_option maxRecDepth 100000 in
theorem rawake_any (w : World) : Calls Try.prog 7 #[] w fun e w' => e = .returned (.bool true) ∧ Below w.heap.size w w' := by
  have hok : (⟨false, [2], [5]⟩ : Dc).Ok := ⟨fun d hd => by simp at hd; omega, fun d hd => by simp at hd; omega, by decide, by decide, .inl rfl, fun e => by cases e⟩
  have hnum : (⟨false, [2], [5]⟩ : Dc).num = 25 := rfl
  obtain ⟨-, -, h3⟩ := places_ok ⟨false, [2], [5]⟩ 7 0 hok (by decide) (by decide) (by omega)
  obtain ⟨x, hx, hP, -⟩ := h3 (by decide) (by rintro ⟨h, -⟩; exact absurd h (by decide))
  rw [hnum] at hx
  have e : roQ 7 false 25 (10 ^ ((⟨false, [2], [5]⟩ : Dc).f.length - 0)) = 2 := awake_value
  rw [show (⟨false, [2], [5]⟩ : Dc).neg = false from rfl, e, mkN_small _ _ (by decide), digs_one (by omega)] at hx
  obtain rfl := (Option.some.inj hx).symm
  have D1 : Hid (∀ wx : World, Calls Try.prog 5 #[.agg #[.bool false, .string ⟨#[50]⟩, .string ⟨#[53]⟩], .int .i64 7, .int .i64 0] wx fun e w' => e = .returned (.tuple #[.agg #[.bool false, .string ⟨#[50]⟩, .string ⟨#[]⟩], .int .i64 0]) ∧ Below wx.heap.size wx w') := hP
  clear hP hx e hnum hok h3
  go_enter Try.func7, Try.ntmps7
  go_wp2_with fail
  (with_reducible refine (D1.out _).mono ?_)
  rintro e V1 ⟨rfl, hb⟩
  have HB := Lib.hid hb
  clear hb
  obtain ⟨_, ⟨c0, c1, c2⟩, _⟩ := one_box V1 (.bool false) (.string ⟨#[50]⟩) (.string ⟨#[]⟩) 23
  go_wp2
  go_ret
  exact ⟨rfl, HB.out.alloc HB.out.size _⟩
end Go.Proofs.Ytpbljcjghjbjdaa
