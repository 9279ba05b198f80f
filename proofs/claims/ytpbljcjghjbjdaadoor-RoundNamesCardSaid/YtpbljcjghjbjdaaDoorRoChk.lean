/- The checks of the program's round, and its powers of ten. -/
import Derived.Test.YtpbljcjghjbjdaaDoorRoSign
namespace Go.Proofs.YtpbljcjghjbjdaaDoor
open Go.RowKit
attribute [local go_sem ↓] Go.wp_at_zero Go.wp_at_succ

def modeB (mode : Int) : Bool := decide (1 ≤ mode) && decide (mode ≤ 8)
theorem isMode_any (mode : Int) (w : World) : Calls Tryd.prog 51 #[.int .i64 mode] w fun e w' => e = .returned (.bool (modeB mode)) ∧ Below w.heap.size w w' := by
  by_cases h1 : 1 ≤ mode
  · by_cases h2 : mode ≤ 8
    · have HR : Hid (modeB mode = true) := by show _ = _; unfold modeB; rw [decide_eq_true h1, decide_eq_true h2]; rfl
      have q1 : decide (1 ≤ mode) = true := decide_eq_true h1
      have q2 : decide (mode ≤ 8) = true := decide_eq_true h2
      go_enter Tryd.func51, Tryd.ntmps51
      go_wp2
      go_ret
      exact ⟨ret_bool HR.out.symm, Below.refl _ _⟩
    · have HR : Hid (modeB mode = false) := by show _ = _; unfold modeB; rw [decide_eq_true h1, decide_eq_false h2]; rfl
      have q1 : decide (1 ≤ mode) = true := decide_eq_true h1
      have q2 : decide (mode ≤ 8) = false := decide_eq_false h2
      go_enter Tryd.func51, Tryd.ntmps51
      go_wp2
      go_ret
      exact ⟨ret_bool HR.out.symm, Below.refl _ _⟩
  · have HR : Hid (modeB mode = false) := by show _ = _; unfold modeB; rw [decide_eq_false h1]; rfl
    have q1 : decide (1 ≤ mode) = false := decide_eq_false h1
    go_enter Tryd.func51, Tryd.ntmps51
    go_wp2
    go_ret
    exact ⟨ret_bool HR.out.symm, Below.refl _ _⟩

set_option maxHeartbeats 4000000 in
set_option maxRecDepth 100000 in
theorem cm_bad (an : Bool) (ai af : ByteArray) (mode : Int) (w : World) (H1 : (∀ wx : World, Calls Tryd.prog 40 #[(.agg #[.bool an, .string ai, .string af])] wx fun e w' => e = .returned (.int .i64 20) ∧ Below wx.heap.size wx w'))  :
    Calls Tryd.prog 143 #[(.agg #[.bool an, .string ai, .string af]), .int .i64 mode] w fun e w' => e = .returned (.int .i64 20) ∧ Below w.heap.size w w' := by
  have D1 := Lib.hid H1
  clear H1
  go_enter Tryd.func143, Tryd.ntmps143
  go_wp2_with fail
  obtain ⟨W0, hW0⟩ : ∃ W0, W0 = (w.alloc (.cells #[.bool an, .string ai, .string af] 23)) := ⟨_, rfl⟩
  obtain ⟨hB, hz, C0, FL⟩ : Below w.heap.size w W0 ∧ w.heap.size + 1 ≤ W0.heap.size ∧ Cells3 W0 w.heap.size (.bool an) (.string ai) (.string af) ∧ ∀ i, W0.frozen? ⟨w.heap.size, i, none⟩ = false := by rw [hW0]; exact ⟨(Below.refl _ w).alloc (Nat.le_refl _) _, one_box w _ _ _ _⟩
  have z0 : w.heap.size + 1 ≤ W0.heap.size := by omega
  rw [← hW0]
  have HB := Lib.hid hB
  have F0 := Lib.hid FL
  clear hW0 hB hz FL
  (with_reducible refine (D1.out _).mono ?_)
  rintro e V1 ⟨rfl, hb⟩
  replace C0 := C0.keep hb (by omega)
  replace z0 : w.heap.size + 1 ≤ V1.heap.size := by have := hb.size; omega
  replace HB := Lib.hid (HB.out.trans (hb.mono HB.out.size))
  clear hb
  have o00 := C0.1
  have o01 := C0.2.1
  have o02 := C0.2.2
  go_wp2
  go_ret
  exact ⟨rfl, HB.out⟩

set_option maxHeartbeats 4000000 in
set_option maxRecDepth 100000 in
theorem cm_true (an : Bool) (ai af : ByteArray) (mode : Int) (w : World) (H1 : (∀ wx : World, Calls Tryd.prog 40 #[(.agg #[.bool an, .string ai, .string af])] wx fun e w' => e = .returned (.int .i64 0) ∧ Below wx.heap.size wx w')) (H2 : (∀ wx : World, Calls Tryd.prog 51 #[.int .i64 mode] wx fun e w' => e = .returned (.bool true) ∧ Below wx.heap.size wx w'))  :
    Calls Tryd.prog 143 #[(.agg #[.bool an, .string ai, .string af]), .int .i64 mode] w fun e w' => e = .returned (.int .i64 0) ∧ Below w.heap.size w w' := by
  have D1 := Lib.hid H1
  have D2 := Lib.hid H2
  clear H1 H2
  go_enter Tryd.func143, Tryd.ntmps143
  go_wp2_with fail
  obtain ⟨W0, hW0⟩ : ∃ W0, W0 = (w.alloc (.cells #[.bool an, .string ai, .string af] 23)) := ⟨_, rfl⟩
  obtain ⟨hB, hz, C0, FL⟩ : Below w.heap.size w W0 ∧ w.heap.size + 1 ≤ W0.heap.size ∧ Cells3 W0 w.heap.size (.bool an) (.string ai) (.string af) ∧ ∀ i, W0.frozen? ⟨w.heap.size, i, none⟩ = false := by rw [hW0]; exact ⟨(Below.refl _ w).alloc (Nat.le_refl _) _, one_box w _ _ _ _⟩
  have z0 : w.heap.size + 1 ≤ W0.heap.size := by omega
  rw [← hW0]
  have HB := Lib.hid hB
  have F0 := Lib.hid FL
  clear hW0 hB hz FL
  (with_reducible refine (D1.out _).mono ?_)
  rintro e V1 ⟨rfl, hb⟩
  replace C0 := C0.keep hb (by omega)
  replace z0 : w.heap.size + 1 ≤ V1.heap.size := by have := hb.size; omega
  replace HB := Lib.hid (HB.out.trans (hb.mono HB.out.size))
  clear hb
  have o00 := C0.1
  have o01 := C0.2.1
  have o02 := C0.2.2
  go_wp2_with fail
  clear o00 o01 o02
  (with_reducible refine (D2.out _).mono ?_)
  rintro e V2 ⟨rfl, hb⟩
  replace C0 := C0.keep hb (by omega)
  replace z0 : w.heap.size + 1 ≤ V2.heap.size := by have := hb.size; omega
  replace HB := Lib.hid (HB.out.trans (hb.mono HB.out.size))
  clear hb
  have o00 := C0.1
  have o01 := C0.2.1
  have o02 := C0.2.2
  go_wp2
  go_ret
  exact ⟨rfl, HB.out⟩

set_option maxHeartbeats 4000000 in
set_option maxRecDepth 100000 in
theorem cm_false (an : Bool) (ai af : ByteArray) (mode : Int) (w : World) (H1 : (∀ wx : World, Calls Tryd.prog 40 #[(.agg #[.bool an, .string ai, .string af])] wx fun e w' => e = .returned (.int .i64 0) ∧ Below wx.heap.size wx w')) (H2 : (∀ wx : World, Calls Tryd.prog 51 #[.int .i64 mode] wx fun e w' => e = .returned (.bool false) ∧ Below wx.heap.size wx w'))  :
    Calls Tryd.prog 143 #[(.agg #[.bool an, .string ai, .string af]), .int .i64 mode] w fun e w' => e = .returned (.int .i64 30) ∧ Below w.heap.size w w' := by
  have D1 := Lib.hid H1
  have D2 := Lib.hid H2
  clear H1 H2
  go_enter Tryd.func143, Tryd.ntmps143
  go_wp2_with fail
  obtain ⟨W0, hW0⟩ : ∃ W0, W0 = (w.alloc (.cells #[.bool an, .string ai, .string af] 23)) := ⟨_, rfl⟩
  obtain ⟨hB, hz, C0, FL⟩ : Below w.heap.size w W0 ∧ w.heap.size + 1 ≤ W0.heap.size ∧ Cells3 W0 w.heap.size (.bool an) (.string ai) (.string af) ∧ ∀ i, W0.frozen? ⟨w.heap.size, i, none⟩ = false := by rw [hW0]; exact ⟨(Below.refl _ w).alloc (Nat.le_refl _) _, one_box w _ _ _ _⟩
  have z0 : w.heap.size + 1 ≤ W0.heap.size := by omega
  rw [← hW0]
  have HB := Lib.hid hB
  have F0 := Lib.hid FL
  clear hW0 hB hz FL
  (with_reducible refine (D1.out _).mono ?_)
  rintro e V1 ⟨rfl, hb⟩
  replace C0 := C0.keep hb (by omega)
  replace z0 : w.heap.size + 1 ≤ V1.heap.size := by have := hb.size; omega
  replace HB := Lib.hid (HB.out.trans (hb.mono HB.out.size))
  clear hb
  have o00 := C0.1
  have o01 := C0.2.1
  have o02 := C0.2.2
  go_wp2_with fail
  clear o00 o01 o02
  (with_reducible refine (D2.out _).mono ?_)
  rintro e V2 ⟨rfl, hb⟩
  replace C0 := C0.keep hb (by omega)
  replace z0 : w.heap.size + 1 ≤ V2.heap.size := by have := hb.size; omega
  replace HB := Lib.hid (HB.out.trans (hb.mono HB.out.size))
  clear hb
  have o00 := C0.1
  have o01 := C0.2.1
  have o02 := C0.2.2
  go_wp2
  go_ret
  exact ⟨rfl, HB.out⟩

def modeE (ok : Bool) (mode : Int) : Int := if ok then (if modeB mode then 0 else 30) else 20
theorem checkMode_any (n : Bool) (i f : ByteArray) (mode : Int) (w : World) (hi : i.size ≤ 140737488355328) (hf : f.size ≤ 140737488355328) :
    Calls Tryd.prog 143 #[.agg #[.bool n, .string i, .string f], .int .i64 mode] w fun e w' => e = .returned (.int .i64 (modeE (okB n i f) mode)) ∧ Below w.heap.size w w' := by
  have H1 := fun wx => check_any n i f wx hi hf
  have H2 := fun wx => isMode_any mode wx
  unfold modeE
  unfold ckE at H1
  cases hk : okB n i f with
  | false => rw [hk] at H1; exact cm_bad n i f mode w H1
  | true =>
    rw [hk] at H1
    cases hm : modeB mode with
    | false => rw [hm] at H2; exact cm_false n i f mode w H1 H2
    | true => rw [hm] at H2; exact cm_true n i f mode w H1 H2

set_option maxHeartbeats 4000000 in
set_option maxRecDepth 100000 in
theorem cr_bad (an : Bool) (ai af : ByteArray) (mode lo le mo : Int) (ec : Int) (w : World) (H1 : (∀ wx : World, Calls Tryd.prog 143 #[(.agg #[.bool an, .string ai, .string af]), .int .i64 mode] wx fun e w' => e = .returned (.int .i64 ec) ∧ Below wx.heap.size wx w')) (he : (ec != 0) = true) :
    Calls Tryd.prog 94 #[(.agg #[.bool an, .string ai, .string af]), .int .i64 mode, .int .i64 lo, .int .i64 le, .int .i64 mo] w fun e w' => e = .returned (.int .i64 ec) ∧ Below w.heap.size w w' := by
  have D1 := Lib.hid H1
  clear H1
  go_enter Tryd.func94, Tryd.ntmps94
  go_wp2_with fail
  obtain ⟨W0, hW0⟩ : ∃ W0, W0 = (w.alloc (.cells #[.bool an, .string ai, .string af] 23)) := ⟨_, rfl⟩
  obtain ⟨hB, hz, C0, FL⟩ : Below w.heap.size w W0 ∧ w.heap.size + 1 ≤ W0.heap.size ∧ Cells3 W0 w.heap.size (.bool an) (.string ai) (.string af) ∧ ∀ i, W0.frozen? ⟨w.heap.size, i, none⟩ = false := by rw [hW0]; exact ⟨(Below.refl _ w).alloc (Nat.le_refl _) _, one_box w _ _ _ _⟩
  have z0 : w.heap.size + 1 ≤ W0.heap.size := by omega
  rw [← hW0]
  have HB := Lib.hid hB
  have F0 := Lib.hid FL
  clear hW0 hB hz FL
  (with_reducible refine (D1.out _).mono ?_)
  rintro e V1 ⟨rfl, hb⟩
  replace C0 := C0.keep hb (by omega)
  replace z0 : w.heap.size + 1 ≤ V1.heap.size := by have := hb.size; omega
  replace HB := Lib.hid (HB.out.trans (hb.mono HB.out.size))
  clear hb
  have o00 := C0.1
  have o01 := C0.2.1
  have o02 := C0.2.2
  go_wp2
  go_ret
  exact ⟨rfl, HB.out⟩

set_option maxHeartbeats 4000000 in
set_option maxRecDepth 100000 in
theorem cr_1 (an : Bool) (ai af : ByteArray) (mode lo le mo : Int) (w : World) (H1 : (∀ wx : World, Calls Tryd.prog 143 #[(.agg #[.bool an, .string ai, .string af]), .int .i64 mode] wx fun e w' => e = .returned (.int .i64 0) ∧ Below wx.heap.size wx w')) (h1 : le < lo) :
    Calls Tryd.prog 94 #[(.agg #[.bool an, .string ai, .string af]), .int .i64 mode, .int .i64 lo, .int .i64 le, .int .i64 mo] w fun e w' => e = .returned (.int .i64 1) ∧ Below w.heap.size w w' := by
  have D1 := Lib.hid H1
  clear H1
  have q1 : decide (le < lo) = true := decide_eq_true h1
  have q0 : ((0 : Int) != 0) = false := by decide
  go_enter Tryd.func94, Tryd.ntmps94
  go_wp2_with fail
  obtain ⟨W0, hW0⟩ : ∃ W0, W0 = (w.alloc (.cells #[.bool an, .string ai, .string af] 23)) := ⟨_, rfl⟩
  obtain ⟨hB, hz, C0, FL⟩ : Below w.heap.size w W0 ∧ w.heap.size + 1 ≤ W0.heap.size ∧ Cells3 W0 w.heap.size (.bool an) (.string ai) (.string af) ∧ ∀ i, W0.frozen? ⟨w.heap.size, i, none⟩ = false := by rw [hW0]; exact ⟨(Below.refl _ w).alloc (Nat.le_refl _) _, one_box w _ _ _ _⟩
  have z0 : w.heap.size + 1 ≤ W0.heap.size := by omega
  rw [← hW0]
  have HB := Lib.hid hB
  have F0 := Lib.hid FL
  clear hW0 hB hz FL
  (with_reducible refine (D1.out _).mono ?_)
  rintro e V1 ⟨rfl, hb⟩
  replace C0 := C0.keep hb (by omega)
  replace z0 : w.heap.size + 1 ≤ V1.heap.size := by have := hb.size; omega
  replace HB := Lib.hid (HB.out.trans (hb.mono HB.out.size))
  clear hb
  have o00 := C0.1
  have o01 := C0.2.1
  have o02 := C0.2.2
  go_wp2
  go_ret
  exact ⟨rfl, HB.out⟩

set_option maxHeartbeats 4000000 in
set_option maxRecDepth 100000 in
theorem cr_2 (an : Bool) (ai af : ByteArray) (mode lo le mo : Int) (w : World) (H1 : (∀ wx : World, Calls Tryd.prog 143 #[(.agg #[.bool an, .string ai, .string af]), .int .i64 mode] wx fun e w' => e = .returned (.int .i64 0) ∧ Below wx.heap.size wx w')) (h1 : ¬ le < lo) (h2 : mo < le) :
    Calls Tryd.prog 94 #[(.agg #[.bool an, .string ai, .string af]), .int .i64 mode, .int .i64 lo, .int .i64 le, .int .i64 mo] w fun e w' => e = .returned (.int .i64 1) ∧ Below w.heap.size w w' := by
  have D1 := Lib.hid H1
  clear H1
  have q1 : decide (le < lo) = false := decide_eq_false h1
  have q2 : decide (mo < le) = true := decide_eq_true h2
  have q0 : ((0 : Int) != 0) = false := by decide
  go_enter Tryd.func94, Tryd.ntmps94
  go_wp2_with fail
  obtain ⟨W0, hW0⟩ : ∃ W0, W0 = (w.alloc (.cells #[.bool an, .string ai, .string af] 23)) := ⟨_, rfl⟩
  obtain ⟨hB, hz, C0, FL⟩ : Below w.heap.size w W0 ∧ w.heap.size + 1 ≤ W0.heap.size ∧ Cells3 W0 w.heap.size (.bool an) (.string ai) (.string af) ∧ ∀ i, W0.frozen? ⟨w.heap.size, i, none⟩ = false := by rw [hW0]; exact ⟨(Below.refl _ w).alloc (Nat.le_refl _) _, one_box w _ _ _ _⟩
  have z0 : w.heap.size + 1 ≤ W0.heap.size := by omega
  rw [← hW0]
  have HB := Lib.hid hB
  have F0 := Lib.hid FL
  clear hW0 hB hz FL
  (with_reducible refine (D1.out _).mono ?_)
  rintro e V1 ⟨rfl, hb⟩
  replace C0 := C0.keep hb (by omega)
  replace z0 : w.heap.size + 1 ≤ V1.heap.size := by have := hb.size; omega
  replace HB := Lib.hid (HB.out.trans (hb.mono HB.out.size))
  clear hb
  have o00 := C0.1
  have o01 := C0.2.1
  have o02 := C0.2.2
  go_wp2
  go_ret
  exact ⟨rfl, HB.out⟩

set_option maxHeartbeats 4000000 in
set_option maxRecDepth 100000 in
theorem cr_3 (an : Bool) (ai af : ByteArray) (mode lo le mo : Int) (w : World) (H1 : (∀ wx : World, Calls Tryd.prog 143 #[(.agg #[.bool an, .string ai, .string af]), .int .i64 mode] wx fun e w' => e = .returned (.int .i64 0) ∧ Below wx.heap.size wx w')) (h1 : ¬ le < lo) (h2 : ¬ mo < le) (h3 : 40 < mo) :
    Calls Tryd.prog 94 #[(.agg #[.bool an, .string ai, .string af]), .int .i64 mode, .int .i64 lo, .int .i64 le, .int .i64 mo] w fun e w' => e = .returned (.int .i64 1) ∧ Below w.heap.size w w' := by
  have D1 := Lib.hid H1
  clear H1
  have q1 : decide (le < lo) = false := decide_eq_false h1
  have q2 : decide (mo < le) = false := decide_eq_false h2
  have q3 : decide (40 < mo) = true := decide_eq_true h3
  have q0 : ((0 : Int) != 0) = false := by decide
  go_enter Tryd.func94, Tryd.ntmps94
  go_wp2_with fail
  obtain ⟨W0, hW0⟩ : ∃ W0, W0 = (w.alloc (.cells #[.bool an, .string ai, .string af] 23)) := ⟨_, rfl⟩
  obtain ⟨hB, hz, C0, FL⟩ : Below w.heap.size w W0 ∧ w.heap.size + 1 ≤ W0.heap.size ∧ Cells3 W0 w.heap.size (.bool an) (.string ai) (.string af) ∧ ∀ i, W0.frozen? ⟨w.heap.size, i, none⟩ = false := by rw [hW0]; exact ⟨(Below.refl _ w).alloc (Nat.le_refl _) _, one_box w _ _ _ _⟩
  have z0 : w.heap.size + 1 ≤ W0.heap.size := by omega
  rw [← hW0]
  have HB := Lib.hid hB
  have F0 := Lib.hid FL
  clear hW0 hB hz FL
  (with_reducible refine (D1.out _).mono ?_)
  rintro e V1 ⟨rfl, hb⟩
  replace C0 := C0.keep hb (by omega)
  replace z0 : w.heap.size + 1 ≤ V1.heap.size := by have := hb.size; omega
  replace HB := Lib.hid (HB.out.trans (hb.mono HB.out.size))
  clear hb
  have o00 := C0.1
  have o01 := C0.2.1
  have o02 := C0.2.2
  go_wp2
  go_ret
  exact ⟨rfl, HB.out⟩

set_option maxHeartbeats 4000000 in
set_option maxRecDepth 100000 in
theorem cr_4 (an : Bool) (ai af : ByteArray) (mode lo le mo : Int) (w : World) (H1 : (∀ wx : World, Calls Tryd.prog 143 #[(.agg #[.bool an, .string ai, .string af]), .int .i64 mode] wx fun e w' => e = .returned (.int .i64 0) ∧ Below wx.heap.size wx w')) (h1 : ¬ le < lo) (h2 : ¬ mo < le) (h3 : ¬ 40 < mo) :
    Calls Tryd.prog 94 #[(.agg #[.bool an, .string ai, .string af]), .int .i64 mode, .int .i64 lo, .int .i64 le, .int .i64 mo] w fun e w' => e = .returned (.int .i64 0) ∧ Below w.heap.size w w' := by
  have D1 := Lib.hid H1
  clear H1
  have q1 : decide (le < lo) = false := decide_eq_false h1
  have q2 : decide (mo < le) = false := decide_eq_false h2
  have q3 : decide (40 < mo) = false := decide_eq_false h3
  have q0 : ((0 : Int) != 0) = false := by decide
  go_enter Tryd.func94, Tryd.ntmps94
  go_wp2_with fail
  obtain ⟨W0, hW0⟩ : ∃ W0, W0 = (w.alloc (.cells #[.bool an, .string ai, .string af] 23)) := ⟨_, rfl⟩
  obtain ⟨hB, hz, C0, FL⟩ : Below w.heap.size w W0 ∧ w.heap.size + 1 ≤ W0.heap.size ∧ Cells3 W0 w.heap.size (.bool an) (.string ai) (.string af) ∧ ∀ i, W0.frozen? ⟨w.heap.size, i, none⟩ = false := by rw [hW0]; exact ⟨(Below.refl _ w).alloc (Nat.le_refl _) _, one_box w _ _ _ _⟩
  have z0 : w.heap.size + 1 ≤ W0.heap.size := by omega
  rw [← hW0]
  have HB := Lib.hid hB
  have F0 := Lib.hid FL
  clear hW0 hB hz FL
  (with_reducible refine (D1.out _).mono ?_)
  rintro e V1 ⟨rfl, hb⟩
  replace C0 := C0.keep hb (by omega)
  replace z0 : w.heap.size + 1 ≤ V1.heap.size := by have := hb.size; omega
  replace HB := Lib.hid (HB.out.trans (hb.mono HB.out.size))
  clear hb
  have o00 := C0.1
  have o01 := C0.2.1
  have o02 := C0.2.2
  go_wp2
  go_ret
  exact ⟨rfl, HB.out⟩

def rangeE (ok : Bool) (mode lo le mo : Int) : Int := if modeE ok mode = 0 then (if le < lo ∨ mo < le ∨ 40 < mo then 1 else 0) else modeE ok mode
theorem checkRange_any (n : Bool) (i f : ByteArray) (mode lo le mo : Int) (w : World) (hi : i.size ≤ 140737488355328) (hf : f.size ≤ 140737488355328) :
    Calls Tryd.prog 94 #[.agg #[.bool n, .string i, .string f], .int .i64 mode, .int .i64 lo, .int .i64 le, .int .i64 mo] w fun e w' => e = .returned (.int .i64 (rangeE (okB n i f) mode lo le mo)) ∧ Below w.heap.size w w' := by
  have H1 := fun wx => checkMode_any n i f mode wx hi hf
  unfold rangeE
  by_cases h0 : modeE (okB n i f) mode = 0
  · rw [if_pos h0]
    rw [h0] at H1
    by_cases h1 : le < lo
    · rw [if_pos (.inl h1)]; exact cr_1 n i f mode lo le mo w H1 h1
    by_cases h2 : mo < le
    · rw [if_pos (.inr (.inl h2))]; exact cr_2 n i f mode lo le mo w H1 h1 h2
    by_cases h3 : 40 < mo
    · rw [if_pos (.inr (.inr h3))]; exact cr_3 n i f mode lo le mo w H1 h1 h2 h3
    · rw [if_neg (by omega)]; exact cr_4 n i f mode lo le mo w H1 h1 h2 h3
  · rw [if_neg h0]
    exact cr_bad n i f mode lo le mo _ w H1 (by simpa using h0)

set_option maxHeartbeats 2000000 in
set_option maxRecDepth 100000 in
theorem power_ok (p : Int) (t : Dc) (w : World) (h1 : -40 ≤ p) (h2 : p ≤ 40) (ht : shD (natD 1) p = some t) :
    Calls Tryd.prog 145 #[.int .i64 p] w fun e w' => e = .returned (.agg #[.bool t.neg, .string (dStr t.i), .string (dStr t.f)]) ∧ Below w.heap.size w w' := by
  obtain ⟨Z, hZ⟩ : ∃ Z, Z = dStr (digs 1) := ⟨_, rfl⟩
  have D1 : Hid (∀ wx : World, Calls Tryd.prog 12 #[.int .i64 1] wx fun e w' => e = .returned (.agg #[.bool false, .string Z, .string ⟨#[]⟩]) ∧ Below wx.heap.size wx w') := fun wx => of_lit 1 Z wx hZ (by omega)
  have D2 : Hid (∀ wx : World, Calls Tryd.prog 68 #[.agg #[.bool false, .string Z, .string ⟨#[]⟩], .int .i64 p] wx fun e w' => e = .returned (.tuple #[.agg #[.bool t.neg, .string (dStr t.i), .string (dStr t.f)], .int .i64 0]) ∧ Below wx.heap.size wx w') := fun wx => by
    rw [hZ]
    exact shift_ok (natD 1) p wx (some t) ht (natD_ok 1 (by decide)) h1 h2
  clear hZ h1 h2 ht
  go_enter Tryd.func145, Tryd.ntmps145
  go_wp2_with fail
  obtain ⟨W2, hW2⟩ : ∃ W2, W2 = w.alloc (.cells #[.bool false, .string ⟨#[]⟩, .string ⟨#[]⟩] 23) := ⟨_, rfl⟩
  obtain ⟨hb2, hz2, CR, FR⟩ : Below w.heap.size w W2 ∧ w.heap.size + 1 ≤ W2.heap.size ∧ Cells3 W2 w.heap.size (.bool false) (.string ⟨#[]⟩) (.string ⟨#[]⟩) ∧ ∀ i, W2.frozen? ⟨w.heap.size, i, none⟩ = false := by rw [hW2]; exact ⟨(Below.refl _ w).alloc (Nat.le_refl _) _, one_box w _ _ _ _⟩
  rw [← hW2]
  clear hW2
  (with_reducible refine (D1.out _).mono ?_)
  rintro e V3 ⟨rfl, hb3⟩
  have CR := CR.keep hb3 (by omega)
  have FR := frozen_keep FR hb3 (by omega)
  have B3 := hb2.trans (hb3.mono hb2.size)
  have hz3 : w.heap.size + 1 ≤ V3.heap.size := by have := hb3.size; omega
  clear hb3 hb2
  go_wp2_with fail
  (with_reducible refine (D2.out _).mono ?_)
  rintro e V4 ⟨rfl, hb4⟩
  have CR := CR.keep hb4 (by omega)
  have FR := frozen_keep FR hb4 (by omega)
  have B4 := B3.trans (hb4.mono B3.size)
  have hz4 : w.heap.size + 1 ≤ V4.heap.size := by have := hb4.size; omega
  clear hb4
  obtain ⟨W5, hW5⟩ : ∃ W5, W5 = V4.alloc (.cells #[.bool t.neg, .string (dStr t.i), .string (dStr t.f)] 23) := ⟨_, rfl⟩
  obtain ⟨hb5, hz5, CT, _⟩ : Below V4.heap.size V4 W5 ∧ V4.heap.size + 1 ≤ W5.heap.size ∧ Cells3 W5 V4.heap.size (.bool t.neg) (.string (dStr t.i)) (.string (dStr t.f)) ∧ ∀ i, W5.frozen? ⟨V4.heap.size, i, none⟩ = false := by rw [hW5]; exact ⟨(Below.refl _ _).alloc (Nat.le_refl _) _, one_box V4 _ _ _ _⟩
  have CR := CR.keep hb5 (by omega)
  have z0 := frozen_keep FR hb5 (by omega)
  have B5 := Lib.hid (B4.trans (hb5.mono B4.size))
  have HW5 := Lib.hid hW5
  obtain ⟨r0, r1, r2⟩ := CR
  obtain ⟨t0, t1, t2⟩ := CT
  obtain ⟨e0, e1, e2⟩ := res_cells r0 r1 r2 (.bool t.neg) (.string (dStr t.i)) (.string (dStr t.f))
  have HBl := Lib.hid (res_below B5.out (Nat.le_refl _) (.bool t.neg) (.string (dStr t.i)) (.string (dStr t.f)))
  clear hb5 B4 B3
  rw [hW5] at r0 r1 r2 t0 t1 t2 e0 e1 e2 z0 HBl
  clear hW5
  go_wp2
  exact bodyPost_ret (v := .agg #[.bool t.neg, .string (dStr t.i), .string (dStr t.f)]) (by simp [results, Tryd.results145, go_sem, e0, e1, e2]) rfl ⟨rfl, HBl.out⟩
end Go.Proofs.YtpbljcjghjbjdaaDoor
