/- awake of the laws of layer 4. -/
import Derived.Test.YtpbljcjghjbjdaaDoorOpE
namespace Go.Proofs.YtpbljcjghjbjdaaDoor
open Go.RowKit
attribute [local go_sem ↓] Go.wp_at_zero Go.wp_at_succ

def askO : Dc := ⟨false, [1], [5, 0]⟩
def askT : Dc := ⟨false, [1], [5]⟩
theorem askO_ok : askO.Ok := ⟨fun d hd => by simp [askO] at hd; omega, fun d hd => by simp [askO] at hd; omega, by decide, by decide, .inl rfl, fun e => by cases e⟩
theorem askO_trim : trimD askO = askT := rfl
theorem askO_f : intg askO.f = [5, 0] := intg_lead askO_ok.df
theorem askT_f : intg askT.f = [5] := intg_lead (fun d hd => by simp [askT] at hd; omega)

set_option maxHeartbeats 2000000 in
set_option maxRecDepth 100000 in
theorem oawake_any (w : World) : Calls Tryd.prog 22 #[] w fun e w' => e = .returned (.bool true) ∧ Below w.heap.size w w' := by
  have D1 : Hid (∀ wx : World, Calls Tryd.prog 28 #[.agg #[.bool false, .string ⟨#[49]⟩, .string ⟨#[53, 48]⟩], .int .i64 0] wx fun e w' => e = .returned (.tuple #[.agg #[.bool false, .string ⟨#[49]⟩, .string ⟨#[53]⟩, .string ⟨#[49]⟩, .int .i64 2, .int .i64 1, .string ⟨#[53, 48]⟩, .string ⟨#[53]⟩, .int .i64 0], .int .i64 0]) ∧ Below wx.heap.size wx w') := fun wx => by
    have := of_ok askO askO askT 0 wx askO_ok askO_ok (by omega) (by omega) (shift_zero askO_ok) askO_trim
    rw [askO_f, askT_f] at this
    exact this
  have D2 : Hid (∀ wx : World, Calls Tryd.prog 20 #[.agg #[.bool false, .string ⟨#[49]⟩, .string ⟨#[53]⟩, .string ⟨#[49]⟩, .int .i64 2, .int .i64 1, .string ⟨#[53, 48]⟩, .string ⟨#[53]⟩, .int .i64 0], .string ⟨#[116]⟩] wx fun e w' => e = .returned (.tuple #[.agg #[.bool false, .string ⟨#[53]⟩, .string ⟨#[]⟩], .int .i64 0]) ∧ Below wx.heap.size wx w') := fun wx => by
    have := get_t askO askT 0 wx askO_ok rfl (by omega) (by omega) askO_trim
    rw [askO_f, askT_f] at this
    exact this
  go_enter Tryd.func22, Tryd.ntmps22
  go_wp2_with fail
  (with_reducible refine (D1.out _).mono ?_)
  rintro e V1 ⟨rfl, hb⟩
  have HB := Lib.hid hb
  obtain ⟨hz1, CO, -⟩ := nine_box V1 (.bool false) (.string ⟨#[49]⟩) (.string ⟨#[53]⟩) (.string ⟨#[49]⟩) (.int .i64 2) (.int .i64 1) (.string ⟨#[53, 48]⟩) (.string ⟨#[53]⟩) (.int .i64 0) 36
  obtain ⟨W1, hW1⟩ : ∃ W1, W1 = V1.alloc (.cells #[.bool false, .string ⟨#[49]⟩, .string ⟨#[53]⟩, .string ⟨#[49]⟩, .int .i64 2, .int .i64 1, .string ⟨#[53, 48]⟩, .string ⟨#[53]⟩, .int .i64 0] 36) := ⟨_, rfl⟩
  have ba : Below V1.heap.size V1 W1 := by rw [hW1]; exact (Below.refl _ _).alloc (Nat.le_refl _) _
  rw [← hW1] at hz1 CO
  have HW1 := Lib.hid hW1
  have B1 := Lib.hid (hb.trans (ba.mono hb.size))
  clear hb ba hW1
  obtain ⟨a0, a1, a2, a3, a4, a5, a6, a7, a8⟩ := CO
  have HO : Hid (Cells9 W1 V1.heap.size (.bool false) (.string ⟨#[49]⟩) (.string ⟨#[53]⟩) (.string ⟨#[49]⟩) (.int .i64 2) (.int .i64 1) (.string ⟨#[53, 48]⟩) (.string ⟨#[53]⟩) (.int .i64 0)) := ⟨a0, a1, a2, a3, a4, a5, a6, a7, a8⟩
  go_wp2_with fail
  rw [← HW1.out]
  (with_reducible refine (D2.out _).mono ?_)
  rintro e V2 ⟨rfl, hb2⟩
  have B2 := Lib.hid (B1.out.trans (hb2.mono B1.out.size))
  have bb : Below V2.heap.size V2 (V2.alloc (.cells #[.bool false, .string ⟨#[53]⟩, .string ⟨#[]⟩] 23)) := (Below.refl _ _).alloc (Nat.le_refl _) _
  have B3 := Lib.hid (B2.out.trans (bb.mono B2.out.size))
  clear a0 a1 a2 a3 a4 a5 a6 a7 a8
  have h2 := hb2.size
  obtain ⟨a0, a1, a2, a3, a4, a5, a6, a7, a8⟩ := (HO.out.keep hb2 (by omega)).keep bb (by omega)
  obtain ⟨c0, c1, c2⟩ := (one_box V2 (.bool false) (.string ⟨#[53]⟩) (.string ⟨#[]⟩) 23).2.1
  clear hb2 bb
  go_wp2
  go_ret
  exact ⟨rfl, B3.out⟩

end Go.Proofs.YtpbljcjghjbjdaaDoor
