/- sign of the program's round. -/
import Derived.Test.YtpbljcjghjbjdaaDoorRoM
namespace Go.Proofs.YtpbljcjghjbjdaaDoor
open Go.RowKit
attribute [local go_sem ↓] Go.wp_at_zero Go.wp_at_succ

def rAbs (d : Dc) : Dc := ⟨false, d.i, d.f⟩
theorem rAbs_ok {d : Dc} (h : d.Ok) : (rAbs d).Ok := ⟨h.di, h.df, h.one, h.most, h.lead, fun e => by cases e⟩

theorem of_lit (n : Nat) (Z : ByteArray) (w : World) (hZ : Z = dStr (digs n)) (hn : n ≤ 1000) : Calls Tryd.prog 12 #[.int .i64 (n : Int)] w fun e w' => e = .returned (.agg #[.bool false, .string Z, .string ⟨#[]⟩]) ∧ Below w.heap.size w w' := by
  rw [hZ]
  exact of_false (n : Int) w (by omega) (by omega)

set_option maxHeartbeats 2000000 in
set_option maxRecDepth 100000 in
theorem sign_ok (d : Dc) (w : World) (hd : d.Ok) :
    Calls Tryd.prog 175 #[.agg #[.bool d.neg, .string (dStr d.i), .string (dStr d.f)]] w fun e w' => e = .returned (.int .i64 d.z.sign) ∧ Below w.heap.size w w' := by
  obtain ⟨Z, hZ⟩ : ∃ Z, Z = dStr (digs 0) := ⟨_, rfl⟩
  have DO : Hid (∀ wx : World, Calls Tryd.prog 12 #[.int .i64 0] wx fun e w' => e = .returned (.agg #[.bool false, .string Z, .string ⟨#[]⟩]) ∧ Below wx.heap.size wx w') := fun wx => of_lit 0 Z wx hZ (by omega)
  have DC : Hid (∀ wx : World, Calls Tryd.prog 105 #[.agg #[.bool d.neg, .string (dStr d.i), .string (dStr d.f)], .agg #[.bool false, .string Z, .string ⟨#[]⟩]] wx fun e w' => e = .returned (.tuple #[.int .i64 d.z.sign, .int .i64 0]) ∧ Below wx.heap.size wx w') := fun wx => by
    rw [hZ]
    have := compare_ok d (natD 0) wx hd (natD_ok 0 (by decide))
    rw [cmp_nat0] at this
    exact this
  generalize d.z.sign = sg at *
  clear hZ hd
  go_enter Tryd.func175, Tryd.ntmps175
  go_wp2_with fail
  obtain ⟨W2, hW2⟩ : ∃ W2, W2 = w.alloc (.cells #[.bool d.neg, .string (dStr d.i), .string (dStr d.f)] 23) := ⟨_, rfl⟩
  obtain ⟨hb2, hz3, CA, _⟩ : Below w.heap.size w W2 ∧ w.heap.size + 1 ≤ W2.heap.size ∧ Cells3 W2 w.heap.size (.bool d.neg) (.string (dStr d.i)) (.string (dStr d.f)) ∧ ∀ i, W2.frozen? ⟨w.heap.size, i, none⟩ = false := by rw [hW2]; exact ⟨(Below.refl _ w).alloc (Nat.le_refl _) _, one_box w _ _ _ _⟩
  rw [← hW2]
  clear hW2
  have B2 := Lib.hid hb2
  clear hb2
  have HA := Lib.hid CA
  obtain ⟨a0, a1, a2⟩ := CA
  go_region_held3 (fun w' => w'.cell? ⟨w.heap.size, 0, none⟩ = some (.bool d.neg) ∧ w'.cell? ⟨w.heap.size, 1, none⟩ = some (.string (dStr d.i)) ∧ w'.cell? ⟨w.heap.size, 2, none⟩ = some (.string (dStr d.f)))
    (first
      | exact ⟨a0, a1, a2⟩
      | (have t := HA.out.keep hb4 (by omega); exact ⟨t.1, t.2.1, t.2.2⟩)
      | (have t := HA.out.keep (undrew hbA) (by omega); exact ⟨t.1, t.2.1, t.2.2⟩)
      | go_keep)
    (first
      | (go_at_call 12; (with_reducible refine (DO.out _).mono ?_); rintro e wA ⟨rfl, hbA⟩)
      | (go_at_call 105; (with_reducible refine (DC.out _).mono ?_); rintro e wB ⟨rfl, hbB⟩
         have hb4 : Below W2.heap.size W2 wB := (undrew hbA).trans (hbB.mono (undrew hbA).size)))
  go_wp2
  go_ret
  exact ⟨rfl, B2.out.trans (hb4.mono B2.out.size)⟩
end Go.Proofs.YtpbljcjghjbjdaaDoor
