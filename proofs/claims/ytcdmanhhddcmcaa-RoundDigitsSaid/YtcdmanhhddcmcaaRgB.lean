/- Significant of the reference. -/
import Derived.Test.YtcdmanhhddcmcaaRgA
import Derived.Deep.RegionWith
import Derived.Deep.RegionHeld3
namespace Go.Proofs.Ytcdmanhhddcmcaa
open Go.RowKit
attribute [local go_sem ↓] Go.wp_at_zero Go.wp_at_succ

set_option maxHeartbeats 4000000 in
set_option maxRecDepth 100000 in
theorem rs_bad (an : Bool) (ai af : ByteArray) (mode least most : Int) (ec : Int) (w : World) (H1 : (∀ wx : World, Calls Try.prog 60 #[(.agg #[.bool an, .string ai, .string af]), .int .i64 mode] wx fun e w' => e = .returned (.int .i64 ec) ∧ Below wx.heap.size wx w')) (he : (ec != 0) = true) :
    Calls Try.prog 28 #[(.agg #[.bool an, .string ai, .string af]), .int .i64 mode, .int .i64 least, .int .i64 most] w fun e w' => e = .returned (.tuple #[.agg #[.bool false, .string ⟨#[]⟩, .string ⟨#[]⟩], .int .i64 ec]) ∧ Below w.heap.size w w' := by
  have D1 := Lib.hid H1
  clear H1
  go_enter Try.func28, Try.ntmps28
  go_wp2_with fail
  obtain ⟨W0, hW0⟩ : ∃ W0, W0 = ((w.alloc (.cells #[.bool an, .string ai, .string af] 23)).alloc (.cells #[.bool false, .string ⟨#[]⟩, .string ⟨#[]⟩] 23)) := ⟨_, rfl⟩
  obtain ⟨hB, hz, C0, C1, FL⟩ : Below w.heap.size w W0 ∧ w.heap.size + 2 ≤ W0.heap.size ∧ Cells3 W0 w.heap.size (.bool an) (.string ai) (.string af) ∧ Cells3 W0 (w.heap.size + 1) (.bool false) (.string ⟨#[]⟩) (.string ⟨#[]⟩) ∧ ∀ i, W0.frozen? ⟨(w.heap.size + 1), i, none⟩ = false := by rw [hW0]; exact ⟨below_two w _ _, two_boxes w _ _ _ _ _ _ _⟩
  have z0 : w.heap.size + 1 ≤ W0.heap.size := by omega
  have z1 : (w.heap.size + 1) + 1 ≤ W0.heap.size := by omega
  rw [← hW0]
  have HB := Lib.hid hB
  have F1 := Lib.hid FL
  clear hW0 hB hz FL
  (with_reducible refine (D1.out _).mono ?_)
  rintro e V1 ⟨rfl, hb⟩
  replace F1 := Lib.hid (frozen_keep F1.out hb (by omega))
  replace C0 := C0.keep hb (by omega)
  replace z0 : w.heap.size + 1 ≤ V1.heap.size := by have := hb.size; omega
  replace C1 := C1.keep hb (by omega)
  replace z1 : (w.heap.size + 1) + 1 ≤ V1.heap.size := by have := hb.size; omega
  replace HB := Lib.hid (HB.out.trans (hb.mono HB.out.size))
  clear hb
  have o00 := C0.1
  have o10 := C1.1
  have o01 := C0.2.1
  have o02 := C0.2.2
  have o11 := C1.2.1
  have o12 := C1.2.2
  obtain ⟨r0, r1, r2⟩ := C1
  have z0 := F1.out
  obtain ⟨e0, e1, e2⟩ := res_cells r0 r1 r2 (.bool false) (.string ⟨#[]⟩) (.string ⟨#[]⟩)
  go_wp2
  exact bodyPost_ret (v := .tuple #[.agg #[.bool false, .string ⟨#[]⟩, .string ⟨#[]⟩], .int .i64 ec]) (by simp [results, Try.results28, go_sem, e0, e1, e2]) rfl ⟨rfl, res_below HB.out (by omega) _ _ _⟩

set_option maxHeartbeats 4000000 in
set_option maxRecDepth 100000 in
theorem rs_arg0 (an : Bool) (ai af : ByteArray) (mode least most : Int) (w : World) (H1 : (∀ wx : World, Calls Try.prog 60 #[(.agg #[.bool an, .string ai, .string af]), .int .i64 mode] wx fun e w' => e = .returned (.int .i64 0) ∧ Below wx.heap.size wx w'))  (h0 : least < 1) :
    Calls Try.prog 28 #[(.agg #[.bool an, .string ai, .string af]), .int .i64 mode, .int .i64 least, .int .i64 most] w fun e w' => e = .returned (.tuple #[.agg #[.bool false, .string ⟨#[]⟩, .string ⟨#[]⟩], .int .i64 1]) ∧ Below w.heap.size w w' := by
  have D1 := Lib.hid H1
  clear H1
  have q0 : ((0 : Int) != 0) = false := by decide
  have q10 : decide (least < 1) = true := decide_eq_true h0
  go_enter Try.func28, Try.ntmps28
  go_wp2_with fail
  obtain ⟨W0, hW0⟩ : ∃ W0, W0 = ((w.alloc (.cells #[.bool an, .string ai, .string af] 23)).alloc (.cells #[.bool false, .string ⟨#[]⟩, .string ⟨#[]⟩] 23)) := ⟨_, rfl⟩
  obtain ⟨hB, hz, C0, C1, FL⟩ : Below w.heap.size w W0 ∧ w.heap.size + 2 ≤ W0.heap.size ∧ Cells3 W0 w.heap.size (.bool an) (.string ai) (.string af) ∧ Cells3 W0 (w.heap.size + 1) (.bool false) (.string ⟨#[]⟩) (.string ⟨#[]⟩) ∧ ∀ i, W0.frozen? ⟨(w.heap.size + 1), i, none⟩ = false := by rw [hW0]; exact ⟨below_two w _ _, two_boxes w _ _ _ _ _ _ _⟩
  have z0 : w.heap.size + 1 ≤ W0.heap.size := by omega
  have z1 : (w.heap.size + 1) + 1 ≤ W0.heap.size := by omega
  rw [← hW0]
  have HB := Lib.hid hB
  have F1 := Lib.hid FL
  clear hW0 hB hz FL
  (with_reducible refine (D1.out _).mono ?_)
  rintro e V1 ⟨rfl, hb⟩
  replace F1 := Lib.hid (frozen_keep F1.out hb (by omega))
  replace C0 := C0.keep hb (by omega)
  replace z0 : w.heap.size + 1 ≤ V1.heap.size := by have := hb.size; omega
  replace C1 := C1.keep hb (by omega)
  replace z1 : (w.heap.size + 1) + 1 ≤ V1.heap.size := by have := hb.size; omega
  replace HB := Lib.hid (HB.out.trans (hb.mono HB.out.size))
  clear hb
  have o00 := C0.1
  have o10 := C1.1
  have o01 := C0.2.1
  have o02 := C0.2.2
  have o11 := C1.2.1
  have o12 := C1.2.2
  obtain ⟨r0, r1, r2⟩ := C1
  have z0 := F1.out
  obtain ⟨e0, e1, e2⟩ := res_cells r0 r1 r2 (.bool false) (.string ⟨#[]⟩) (.string ⟨#[]⟩)
  go_wp2
  exact bodyPost_ret (v := .tuple #[.agg #[.bool false, .string ⟨#[]⟩, .string ⟨#[]⟩], .int .i64 1]) (by simp [results, Try.results28, go_sem, e0, e1, e2]) rfl ⟨rfl, res_below HB.out (by omega) _ _ _⟩

set_option maxHeartbeats 4000000 in
set_option maxRecDepth 100000 in
theorem rs_arg1 (an : Bool) (ai af : ByteArray) (mode least most : Int) (w : World) (H1 : (∀ wx : World, Calls Try.prog 60 #[(.agg #[.bool an, .string ai, .string af]), .int .i64 mode] wx fun e w' => e = .returned (.int .i64 0) ∧ Below wx.heap.size wx w')) (h0 : ¬ least < 1) (h1 : 40 < least) :
    Calls Try.prog 28 #[(.agg #[.bool an, .string ai, .string af]), .int .i64 mode, .int .i64 least, .int .i64 most] w fun e w' => e = .returned (.tuple #[.agg #[.bool false, .string ⟨#[]⟩, .string ⟨#[]⟩], .int .i64 1]) ∧ Below w.heap.size w w' := by
  have D1 := Lib.hid H1
  clear H1
  have q0 : ((0 : Int) != 0) = false := by decide
  have q10 : decide (least < 1) = false := decide_eq_false h0
  have q11 : decide (40 < least) = true := decide_eq_true h1
  go_enter Try.func28, Try.ntmps28
  go_wp2_with fail
  obtain ⟨W0, hW0⟩ : ∃ W0, W0 = ((w.alloc (.cells #[.bool an, .string ai, .string af] 23)).alloc (.cells #[.bool false, .string ⟨#[]⟩, .string ⟨#[]⟩] 23)) := ⟨_, rfl⟩
  obtain ⟨hB, hz, C0, C1, FL⟩ : Below w.heap.size w W0 ∧ w.heap.size + 2 ≤ W0.heap.size ∧ Cells3 W0 w.heap.size (.bool an) (.string ai) (.string af) ∧ Cells3 W0 (w.heap.size + 1) (.bool false) (.string ⟨#[]⟩) (.string ⟨#[]⟩) ∧ ∀ i, W0.frozen? ⟨(w.heap.size + 1), i, none⟩ = false := by rw [hW0]; exact ⟨below_two w _ _, two_boxes w _ _ _ _ _ _ _⟩
  have z0 : w.heap.size + 1 ≤ W0.heap.size := by omega
  have z1 : (w.heap.size + 1) + 1 ≤ W0.heap.size := by omega
  rw [← hW0]
  have HB := Lib.hid hB
  have F1 := Lib.hid FL
  clear hW0 hB hz FL
  (with_reducible refine (D1.out _).mono ?_)
  rintro e V1 ⟨rfl, hb⟩
  replace F1 := Lib.hid (frozen_keep F1.out hb (by omega))
  replace C0 := C0.keep hb (by omega)
  replace z0 : w.heap.size + 1 ≤ V1.heap.size := by have := hb.size; omega
  replace C1 := C1.keep hb (by omega)
  replace z1 : (w.heap.size + 1) + 1 ≤ V1.heap.size := by have := hb.size; omega
  replace HB := Lib.hid (HB.out.trans (hb.mono HB.out.size))
  clear hb
  have o00 := C0.1
  have o10 := C1.1
  have o01 := C0.2.1
  have o02 := C0.2.2
  have o11 := C1.2.1
  have o12 := C1.2.2
  obtain ⟨r0, r1, r2⟩ := C1
  have z0 := F1.out
  obtain ⟨e0, e1, e2⟩ := res_cells r0 r1 r2 (.bool false) (.string ⟨#[]⟩) (.string ⟨#[]⟩)
  go_wp2
  exact bodyPost_ret (v := .tuple #[.agg #[.bool false, .string ⟨#[]⟩, .string ⟨#[]⟩], .int .i64 1]) (by simp [results, Try.results28, go_sem, e0, e1, e2]) rfl ⟨rfl, res_below HB.out (by omega) _ _ _⟩

set_option maxHeartbeats 4000000 in
set_option maxRecDepth 100000 in
theorem rs_arg2 (an : Bool) (ai af : ByteArray) (mode least most : Int) (w : World) (H1 : (∀ wx : World, Calls Try.prog 60 #[(.agg #[.bool an, .string ai, .string af]), .int .i64 mode] wx fun e w' => e = .returned (.int .i64 0) ∧ Below wx.heap.size wx w')) (h0 : ¬ least < 1) (h1 : ¬ 40 < least) (h2 : most < least) :
    Calls Try.prog 28 #[(.agg #[.bool an, .string ai, .string af]), .int .i64 mode, .int .i64 least, .int .i64 most] w fun e w' => e = .returned (.tuple #[.agg #[.bool false, .string ⟨#[]⟩, .string ⟨#[]⟩], .int .i64 1]) ∧ Below w.heap.size w w' := by
  have D1 := Lib.hid H1
  clear H1
  have q0 : ((0 : Int) != 0) = false := by decide
  have q10 : decide (least < 1) = false := decide_eq_false h0
  have q11 : decide (40 < least) = false := decide_eq_false h1
  have q12 : decide (most < least) = true := decide_eq_true h2
  go_enter Try.func28, Try.ntmps28
  go_wp2_with fail
  obtain ⟨W0, hW0⟩ : ∃ W0, W0 = ((w.alloc (.cells #[.bool an, .string ai, .string af] 23)).alloc (.cells #[.bool false, .string ⟨#[]⟩, .string ⟨#[]⟩] 23)) := ⟨_, rfl⟩
  obtain ⟨hB, hz, C0, C1, FL⟩ : Below w.heap.size w W0 ∧ w.heap.size + 2 ≤ W0.heap.size ∧ Cells3 W0 w.heap.size (.bool an) (.string ai) (.string af) ∧ Cells3 W0 (w.heap.size + 1) (.bool false) (.string ⟨#[]⟩) (.string ⟨#[]⟩) ∧ ∀ i, W0.frozen? ⟨(w.heap.size + 1), i, none⟩ = false := by rw [hW0]; exact ⟨below_two w _ _, two_boxes w _ _ _ _ _ _ _⟩
  have z0 : w.heap.size + 1 ≤ W0.heap.size := by omega
  have z1 : (w.heap.size + 1) + 1 ≤ W0.heap.size := by omega
  rw [← hW0]
  have HB := Lib.hid hB
  have F1 := Lib.hid FL
  clear hW0 hB hz FL
  (with_reducible refine (D1.out _).mono ?_)
  rintro e V1 ⟨rfl, hb⟩
  replace F1 := Lib.hid (frozen_keep F1.out hb (by omega))
  replace C0 := C0.keep hb (by omega)
  replace z0 : w.heap.size + 1 ≤ V1.heap.size := by have := hb.size; omega
  replace C1 := C1.keep hb (by omega)
  replace z1 : (w.heap.size + 1) + 1 ≤ V1.heap.size := by have := hb.size; omega
  replace HB := Lib.hid (HB.out.trans (hb.mono HB.out.size))
  clear hb
  have o00 := C0.1
  have o10 := C1.1
  have o01 := C0.2.1
  have o02 := C0.2.2
  have o11 := C1.2.1
  have o12 := C1.2.2
  obtain ⟨r0, r1, r2⟩ := C1
  have z0 := F1.out
  obtain ⟨e0, e1, e2⟩ := res_cells r0 r1 r2 (.bool false) (.string ⟨#[]⟩) (.string ⟨#[]⟩)
  go_wp2
  exact bodyPost_ret (v := .tuple #[.agg #[.bool false, .string ⟨#[]⟩, .string ⟨#[]⟩], .int .i64 1]) (by simp [results, Try.results28, go_sem, e0, e1, e2]) rfl ⟨rfl, res_below HB.out (by omega) _ _ _⟩

set_option maxHeartbeats 4000000 in
set_option maxRecDepth 100000 in
theorem rs_arg3 (an : Bool) (ai af : ByteArray) (mode least most : Int) (w : World) (H1 : (∀ wx : World, Calls Try.prog 60 #[(.agg #[.bool an, .string ai, .string af]), .int .i64 mode] wx fun e w' => e = .returned (.int .i64 0) ∧ Below wx.heap.size wx w')) (h0 : ¬ least < 1) (h1 : ¬ 40 < least) (h2 : ¬ most < least) (h3 : 40 < most) :
    Calls Try.prog 28 #[(.agg #[.bool an, .string ai, .string af]), .int .i64 mode, .int .i64 least, .int .i64 most] w fun e w' => e = .returned (.tuple #[.agg #[.bool false, .string ⟨#[]⟩, .string ⟨#[]⟩], .int .i64 1]) ∧ Below w.heap.size w w' := by
  have D1 := Lib.hid H1
  clear H1
  have q0 : ((0 : Int) != 0) = false := by decide
  have q10 : decide (least < 1) = false := decide_eq_false h0
  have q11 : decide (40 < least) = false := decide_eq_false h1
  have q12 : decide (most < least) = false := decide_eq_false h2
  have q13 : decide (40 < most) = true := decide_eq_true h3
  go_enter Try.func28, Try.ntmps28
  go_wp2_with fail
  obtain ⟨W0, hW0⟩ : ∃ W0, W0 = ((w.alloc (.cells #[.bool an, .string ai, .string af] 23)).alloc (.cells #[.bool false, .string ⟨#[]⟩, .string ⟨#[]⟩] 23)) := ⟨_, rfl⟩
  obtain ⟨hB, hz, C0, C1, FL⟩ : Below w.heap.size w W0 ∧ w.heap.size + 2 ≤ W0.heap.size ∧ Cells3 W0 w.heap.size (.bool an) (.string ai) (.string af) ∧ Cells3 W0 (w.heap.size + 1) (.bool false) (.string ⟨#[]⟩) (.string ⟨#[]⟩) ∧ ∀ i, W0.frozen? ⟨(w.heap.size + 1), i, none⟩ = false := by rw [hW0]; exact ⟨below_two w _ _, two_boxes w _ _ _ _ _ _ _⟩
  have z0 : w.heap.size + 1 ≤ W0.heap.size := by omega
  have z1 : (w.heap.size + 1) + 1 ≤ W0.heap.size := by omega
  rw [← hW0]
  have HB := Lib.hid hB
  have F1 := Lib.hid FL
  clear hW0 hB hz FL
  (with_reducible refine (D1.out _).mono ?_)
  rintro e V1 ⟨rfl, hb⟩
  replace F1 := Lib.hid (frozen_keep F1.out hb (by omega))
  replace C0 := C0.keep hb (by omega)
  replace z0 : w.heap.size + 1 ≤ V1.heap.size := by have := hb.size; omega
  replace C1 := C1.keep hb (by omega)
  replace z1 : (w.heap.size + 1) + 1 ≤ V1.heap.size := by have := hb.size; omega
  replace HB := Lib.hid (HB.out.trans (hb.mono HB.out.size))
  clear hb
  have o00 := C0.1
  have o10 := C1.1
  have o01 := C0.2.1
  have o02 := C0.2.2
  have o11 := C1.2.1
  have o12 := C1.2.2
  obtain ⟨r0, r1, r2⟩ := C1
  have z0 := F1.out
  obtain ⟨e0, e1, e2⟩ := res_cells r0 r1 r2 (.bool false) (.string ⟨#[]⟩) (.string ⟨#[]⟩)
  go_wp2
  exact bodyPost_ret (v := .tuple #[.agg #[.bool false, .string ⟨#[]⟩, .string ⟨#[]⟩], .int .i64 1]) (by simp [results, Try.results28, go_sem, e0, e1, e2]) rfl ⟨rfl, res_below HB.out (by omega) _ _ _⟩
end Go.Proofs.Ytcdmanhhddcmcaa

namespace Go.Proofs.Ytcdmanhhddcmcaa
open Go.RowKit
attribute [local go_sem ↓] Go.wp_at_zero Go.wp_at_succ

/-- How many places of a fraction stay, where so many significant digits shall stay. -/
def cutS (i f : List Nat) (least : Nat) : Nat → Nat
  | 0 => 0
  | k + 1 => if least < cntL (i ++ f.take (k + 1)) ∧ f.getD k 0 = 0 then cutS i f least k else k + 1
theorem cutS_le (i f : List Nat) (least : Nat) : ∀ k, cutS i f least k ≤ k
  | 0 => Nat.le_refl _
  | k + 1 => by
    show (if least < cntL (i ++ f.take (k + 1)) ∧ f.getD k 0 = 0 then cutS i f least k else k + 1) ≤ k + 1
    have := cutS_le i f least k
    split <;> omega
/-- A nought behind is one significant digit more. -/
theorem cnt_snoc (l : List Nat) : cntL (l ++ [0]) = cntL l + 1 := by
  unfold cntL
  rw [dVal_append]
  have e : dVal l * 10 ^ [0].length + dVal [0] = dVal l * 10 := by rw [dVal_one]; rfl
  rw [e]
  by_cases h : dVal l = 0
  · rw [if_pos (by rw [h]), if_pos h, List.length_append]; rfl
  · rw [if_neg (by omega), if_neg h]
    have := digs_snoc (n := dVal l) (d := 0) (by omega) (by omega)
    rw [Nat.add_zero] at this
    rw [this, List.length_append]; rfl
theorem cnt_le {l : List Nat} (hd : Digs l) {n : Nat} (hl : l.length ≤ n) (h40 : n ≤ 1000) : cntL l ≤ 1000 := by
  unfold cntL
  split
  · omega
  · by_cases h1 : 1 ≤ l.length
    · have := (digs_le (dVal l) l.length h1).2 (dVal_lt hd)
      omega
    · have : l = [] := List.eq_nil_of_length_eq_zero (by omega)
      subst this
      have : digs 0 = [0] := by unfold digs; rw [digsR_small (by omega)]; rfl
      rw [dVal_nil, this]
      simp
theorem cnt_more (l : List Nat) : ∀ j, cntL (l ++ List.replicate j 0) = cntL l + j
  | 0 => by simp
  | j + 1 => by
    rw [List.replicate_succ', ← List.append_assoc, cnt_snoc, cnt_more l j, Nat.add_assoc]

set_option maxHeartbeats 4000000 in
set_option maxRecDepth 100000 in
theorem rs_same (xn : Bool) (xi xf : List Nat) (mode most : Int) (least : Nat) (s : Int) (zn : Bool) (zi zf : ByteArray) (c : Int) (w : World) (H1 : (∀ wx : World, Calls Try.prog 60 #[(.agg #[.bool xn, .string (dStr xi), .string (dStr xf)]), .int .i64 mode] wx fun e w' => e = .returned (.int .i64 0) ∧ Below wx.heap.size wx w')) (H2 : (∀ wx : World, Calls Try.prog 61 #[(.agg #[.bool xn, .string (dStr xi), .string (dStr xf)])] wx fun e w' => e = .returned (.int .i64 s) ∧ Below wx.heap.size wx w')) (H9 : (∀ (wx : World) {F : ByteArray}, F = dStr (xf.take (cutS xi xf least xf.length) ++ List.replicate (least - cntL (xi ++ xf.take (cutS xi xf least xf.length))) 0) → Calls Try.prog 66 #[.agg #[.bool xn, .string (dStr xi), .string F]] wx fun r w' => r = .returned (.tuple #[.agg #[.bool zn, .string zi, .string zf], .int .i64 c]) ∧ Below wx.heap.size wx w')) (h0 : 1 ≤ least) (h1 : least ≤ 40) (h2 : ¬ most < (least : Int)) (h3 : ¬ 40 < most) (hm : xi.length + xf.length ≤ 40) (hdi : Digs xi) (hdf : Digs xf) (hs : ¬ 0 < s - most) (b0 : 0 ≤ s) (b1 : s ≤ 1000) (b2 : 0 ≤ most) :
    Calls Try.prog 28 #[(.agg #[.bool xn, .string (dStr xi), .string (dStr xf)]), .int .i64 mode, .int .i64 (least : Int), .int .i64 most] w fun e w' => e = .returned (.tuple #[(.agg #[.bool zn, .string zi, .string zf]), .int .i64 c]) ∧ Below w.heap.size w w' := by
  have D1 := Lib.hid H1
  have D2 := Lib.hid H2
  have D9 := Lib.hid H9
  clear H1 H2 H9
  have q0 : ((0 : Int) != 0) = false := by decide
  have q10 : decide ((least : Int) < 1) = false := decide_eq_false (by omega)
  have q11 : decide ((40 : Int) < (least : Int)) = false := decide_eq_false (by omega)
  have q12 : decide (most < (least : Int)) = false := decide_eq_false h2
  have q13 : decide (40 < most) = false := decide_eq_false h3
  have HDF := Lib.hid hdf
  have HDI := Lib.hid hdi
  have wzs : IntKind.i64.wrap (s - most) = s - most := IntWalk.i64_in _ (by omega)
  have qs : decide (0 < s - most) = false := decide_eq_false hs
  clear hdf hdi h2 h3
  go_enter Try.func28, Try.ntmps28
  go_wp2_with fail
  obtain ⟨W0, hW0⟩ : ∃ W0, W0 = ((w.alloc (.cells #[.bool xn, .string (dStr xi), .string (dStr xf)] 23)).alloc (.cells #[.bool false, .string ⟨#[]⟩, .string ⟨#[]⟩] 23)) := ⟨_, rfl⟩
  obtain ⟨hB, hz, C0, C1, FL⟩ : Below w.heap.size w W0 ∧ w.heap.size + 2 ≤ W0.heap.size ∧ Cells3 W0 w.heap.size (.bool xn) (.string (dStr xi)) (.string (dStr xf)) ∧ Cells3 W0 (w.heap.size + 1) (.bool false) (.string ⟨#[]⟩) (.string ⟨#[]⟩) ∧ ∀ i, W0.frozen? ⟨(w.heap.size + 1), i, none⟩ = false := by rw [hW0]; exact ⟨below_two w _ _, two_boxes w _ _ _ _ _ _ _⟩
  have z0 : w.heap.size + 1 ≤ W0.heap.size := by omega
  have z1 : (w.heap.size + 1) + 1 ≤ W0.heap.size := by omega
  rw [← hW0]
  have HB := Lib.hid hB
  have F1 := Lib.hid FL
  have F0 := Lib.hid (show ∀ i, W0.frozen? ⟨w.heap.size, i, none⟩ = false by rw [hW0]; exact frozen_keep (one_box w (.bool xn) (.string (dStr xi)) (.string (dStr xf)) 23).2.2 ((Below.refl _ _).alloc (Nat.le_refl _) _) (by simp))
  clear hW0 hB hz FL
  (with_reducible refine (D1.out _).mono ?_)
  rintro e V1 ⟨rfl, hb⟩
  replace F0 := Lib.hid (frozen_keep F0.out hb (by omega))
  replace F1 := Lib.hid (frozen_keep F1.out hb (by omega))
  replace C0 := C0.keep hb (by omega)
  replace z0 : w.heap.size + 1 ≤ V1.heap.size := by have := hb.size; omega
  replace C1 := C1.keep hb (by omega)
  replace z1 : (w.heap.size + 1) + 1 ≤ V1.heap.size := by have := hb.size; omega
  replace HB := Lib.hid (HB.out.trans (hb.mono HB.out.size))
  clear hb
  have o00 := C0.1
  have o10 := C1.1
  have o01 := C0.2.1
  have o02 := C0.2.2
  have o11 := C1.2.1
  have o12 := C1.2.2
  go_wp2_with fail
  clear o00 o01 o02 o10 o11 o12
  (with_reducible refine (D2.out _).mono ?_)
  rintro e V2 ⟨rfl, hb⟩
  replace F0 := Lib.hid (frozen_keep F0.out hb (by omega))
  replace F1 := Lib.hid (frozen_keep F1.out hb (by omega))
  replace C0 := C0.keep hb (by omega)
  replace z0 : w.heap.size + 1 ≤ V2.heap.size := by have := hb.size; omega
  replace C1 := C1.keep hb (by omega)
  replace z1 : (w.heap.size + 1) + 1 ≤ V2.heap.size := by have := hb.size; omega
  replace HB := Lib.hid (HB.out.trans (hb.mono HB.out.size))
  clear hb
  have o00 := C0.1
  have o10 := C1.1
  have o01 := C0.2.1
  have o02 := C0.2.2
  have o11 := C1.2.1
  have o12 := C1.2.2
  go_wp2_with fail
  obtain ⟨GZ, hF0⟩ : ∃ GZ, GZ = xf.take (cutS xi xf least xf.length) := ⟨_, rfl⟩
  obtain ⟨C, hC⟩ : ∃ C, C = cntL (xi ++ GZ) := ⟨_, rfl⟩
  have HF0 := Lib.hid hF0
  have HC := Lib.hid hC.symm
  have HF0d : Hid (Digs GZ) := by show Digs _; rw [hF0]; exact HDF.out.take _
  have HF0l : Hid (GZ.length ≤ 100) := by show _ ≤ _; rw [hF0, List.length_take]; omega
  have DBD : Hid (∀ (wx : World) {F : ByteArray}, F = dStr (GZ ++ List.replicate (least - C) 0) → Calls Try.prog 66 #[.agg #[.bool xn, .string (dStr xi), .string F]] wx fun r w' => r = .returned (.tuple #[.agg #[.bool zn, .string zi, .string zf], .int .i64 c]) ∧ Below wx.heap.size wx w') := by
    show ∀ wx : World, _
    rw [hC, hF0]
    exact D9.out
  clear hF0 hC
  go_loopw [] (fun wr => ∃ k : Nat, k ≤ xf.length ∧ cutS xi xf least k = cutS xi xf least xf.length ∧ Cells3 wr w.heap.size (.bool xn) (.string (dStr xi)) (.string (dStr (xf.take k))) ∧ Cells3 wr (w.heap.size + 1) (.bool false) (.string ⟨#[]⟩) (.string ⟨#[]⟩) ∧ (∀ i, wr.frozen? ⟨w.heap.size, i, none⟩ = false) ∧ (∀ i, wr.frozen? ⟨w.heap.size + 1, i, none⟩ = false) ∧ Below w.heap.size w wr ∧ w.heap.size + 2 ≤ wr.heap.size) (fun wr => cellSz wr ⟨w.heap.size, 2, none⟩)
  case atStart => exact ⟨xf.length, Nat.le_refl _, rfl, by rw [List.take_length]; exact C0, C1, F0.out, F1.out, HB.out, by omega⟩
  case round =>
    obtain ⟨k, hk, hE, hca, hcr, hfa, hfr, hbw, hzw⟩ := hrel
    have HE := Lib.hid hE
    have HCA := Lib.hid hca
    have HCR := Lib.hid hcr
    have HFA := Lib.hid hfa
    have HFR := Lib.hid hfr
    have HW := Lib.hid hbw
    obtain ⟨a0, a1, a2⟩ := hca
    clear hE hcr hfr hbw hfa
    have DCk := Lib.hid (fun wx => count_any xn xi (xf.take k) wx HDI.out (HDF.out.take k) (by rw [List.length_take]; omega))
    obtain ⟨S, hS⟩ : ∃ S, S = dStr (xf.take k) := ⟨_, rfl⟩
    have hz : S.size = k := by rw [hS, dStr_size, List.length_take]; omega
    rw [← hS] at a2 DCk
    have HS := Lib.hid hS
    clear hS
    obtain ⟨K, hK⟩ : ∃ K, K = cntL (xi ++ xf.take k) := ⟨_, rfl⟩
    have HK := Lib.hid hK
    have hKb : K ≤ 1000 := by
      rw [hK]
      exact cnt_le (n := 100) (HDI.out.append (HDF.out.take k)) (by rw [List.length_append, List.length_take]; omega) (by omega)
    rw [← hK] at DCk
    clear hK
    by_cases hgo : least < K ∧ 0 < k ∧ xf.getD (k - 1) 0 = 0
    · obtain ⟨m, rfl⟩ : ∃ m, k = m + 1 := ⟨k - 1, by omega⟩
      obtain ⟨g1, -, h0⟩ := hgo
      rw [Nat.add_sub_cancel] at h0
      have hms : m < S.size := by omega
      have hget : (S[m]'hms).toNat = 48 + (xf.take (m + 1)).getD m 0 := by
        have e := HS.out
        subst e
        exact dStr_get _ (HDF.out.take _) m hms
      have hg2 : (xf.take (m + 1)).getD m 0 = xf.getD m 0 := by
        rw [List.getD_eq_getElem?_getD, List.getD_eq_getElem?_getD, List.getElem?_take, if_pos (by omega)]
      rw [hg2, h0] at hget
      have q48 : (((S[m]'hms).toNat : Int) == 48) = true := by rw [hget]; rfl
      have g2 : (least : Int) < (K : Int) := by omega
      have ST := Lib.hid (show cutS xi xf least (m + 1) = cutS xi xf least m from if_pos ⟨by rw [← HK.out]; exact g1, h0⟩)
      have HX := Lib.hid (show S.extract 0 m = dStr (xf.take m) by rw [HS.out, dStr_ext, List.drop_zero, List.take_take, Nat.min_eq_left (by omega)])
      have HZ := Lib.hid hz
      have HZW := Lib.hid hzw
      clear hget h0 hg2
      go_wp2_with fail
      clear a0 a1 a2
      (with_reducible refine (DCk.out _).mono ?_)
      rintro e W2 ⟨rfl, hb2⟩
      have hz2 := hb2.size
      obtain ⟨a0, a1, a2⟩ := HCA.out.keep hb2 (by omega)
      have HA2 := Lib.hid (HCA.out.keep hb2 (by omega))
      have HR2 := Lib.hid (HCR.out.keep hb2 (by omega))
      have hfa2 := frozen_keep HFA.out hb2 (by omega)
      have HFA2 := Lib.hid hfa2
      have HFR2 := Lib.hid (frozen_keep HFR.out hb2 (by omega))
      have HW2 := Lib.hid (HW.out.trans (hb2.mono HW.out.size))
      have HZ2 : Hid (w.heap.size + 2 ≤ W2.heap.size) := by show _ ≤ _; omega
      rw [← HS.out] at a2
      clear hb2 hz2 hzw
      go_wp2
      go_roundw
      case rel =>
        refine ⟨m, by omega, by rw [← HE.out, ST.out], ?_, ?_, ?_, ?_, HW2.out.setCell (p := ⟨w.heap.size, 2, none⟩) (Nat.le_refl _) _, by have := HZ2.out; simpa [World.setCell] using this⟩
        · rw [← HX.out]
          exact ⟨cell_set_far _ _ _ _ _ _ (by decide) HA2.out.1, cell_set_far _ _ _ _ _ _ (by decide) HA2.out.2.1, cell_set_same _ _ _ _ HA2.out.2.2⟩
        · exact ⟨(World.cell?_setCell_other _ _ _ _ (fun e => by have := congrArg Addr.block e; simp at this)).trans HR2.out.1, (World.cell?_setCell_other _ _ _ _ (fun e => by have := congrArg Addr.block e; simp at this)).trans HR2.out.2.1, (World.cell?_setCell_other _ _ _ _ (fun e => by have := congrArg Addr.block e; simp at this)).trans HR2.out.2.2⟩
        · intro i; simpa using HFA2.out i
        · intro i; simpa using HFR2.out i
      case measure =>
        unfold cellSz
        rw [cell_set_same _ _ _ _ HA2.out.2.2, HCA.out.2.2]
        simp [dStr_size]
        omega
    · have KE : Hid (k = cutS xi xf least xf.length) := by
        show _ = _
        rw [← HE.out]
        cases k with
        | zero => rfl
        | succ m => exact (if_neg (fun h => hgo ⟨by rw [HK.out]; exact h.1, by omega, by rw [Nat.add_sub_cancel]; exact h.2⟩)).symm
      go_wp2_with fail
      clear a0 a1 a2
      (with_reducible refine (DCk.out _).mono ?_)
      rintro e W2 ⟨rfl, hb2⟩
      have hz2 := hb2.size
      obtain ⟨a0, a1, a2⟩ := HCA.out.keep hb2 (by omega)
      have HA2 := Lib.hid (HCA.out.keep hb2 (by omega))
      have HR2 := Lib.hid (HCR.out.keep hb2 (by omega))
      have HFA2 := Lib.hid (frozen_keep HFA.out hb2 (by omega))
      have HFR2 := Lib.hid (frozen_keep HFR.out hb2 (by omega))
      have HW2 := Lib.hid (HW.out.trans (hb2.mono HW.out.size))
      have hzw2 : w.heap.size + 2 ≤ W2.heap.size := by omega
      rw [← HS.out] at a2
      clear hb2 hz2 hzw
      by_cases hk1 : least < K
      · have g1 : (least : Int) < (K : Int) := by omega
        by_cases hk2 : 0 < k
        · obtain ⟨m, rfl⟩ : ∃ m, k = m + 1 := ⟨k - 1, by omega⟩
          have hms : m < S.size := by omega
          have hget : (S[m]'hms).toNat = 48 + (xf.take (m + 1)).getD m 0 := by
            have e := HS.out
            subst e
            exact dStr_get _ (HDF.out.take _) m hms
          have hg2 : (xf.take (m + 1)).getD m 0 = xf.getD m 0 := by
            rw [List.getD_eq_getElem?_getD, List.getD_eq_getElem?_getD, List.getElem?_take, if_pos (by omega)]
          have hne : xf.getD m 0 ≠ 0 := fun h => hgo ⟨hk1, hk2, by rw [Nat.add_sub_cancel]; exact h⟩
          have q48 : (((S[m]'hms).toNat : Int) == 48) = false := by rw [hget, hg2, beq_eq_false_iff_ne]; omega
          clear hgo hget hg2 hne
          go_wp2_with fail
          have HA3 : Hid (Cells3 W2 w.heap.size (.bool xn) (.string (dStr xi)) (.string (dStr GZ))) := by
            show Cells3 _ _ _ _ _
            rw [HF0.out, ← KE.out]
            exact HA2.out
          clear a0 a1 a2
          go_loopw [] (fun wr => ∃ j : Nat, j ≤ least - C ∧ Cells3 wr w.heap.size (.bool xn) (.string (dStr xi)) (.string (dStr (GZ ++ List.replicate j 0))) ∧ Cells3 wr (w.heap.size + 1) (.bool false) (.string ⟨#[]⟩) (.string ⟨#[]⟩) ∧ (∀ i, wr.frozen? ⟨w.heap.size, i, none⟩ = false) ∧ (∀ i, wr.frozen? ⟨w.heap.size + 1, i, none⟩ = false) ∧ Below w.heap.size w wr ∧ w.heap.size + 2 ≤ wr.heap.size) (fun wr => 1000 - cellSz wr ⟨w.heap.size, 2, none⟩)
          case atStart => exact ⟨0, by omega, by rw [List.replicate_zero, List.append_nil]; exact HA3.out, HR2.out, HFA2.out, HFR2.out, HW2.out, hzw2⟩
          case round =>
            obtain ⟨j, hj, hca, hcr, hfa, hfr, hbw, hzw⟩ := hrel
            have HCA := Lib.hid hca
            have HCR := Lib.hid hcr
            have HFA := Lib.hid hfa
            have HFR := Lib.hid hfr
            have HW := Lib.hid hbw
            obtain ⟨a0, a1, a2⟩ := hca
            clear hcr hfr hbw hfa
            have hF0l := HF0l.out
            have DC2 := Lib.hid (fun wx => count_any xn xi (GZ ++ List.replicate j 0) wx HDI.out (HF0d.out.append (.zeros j)) (by rw [List.length_append, List.length_replicate]; omega))
            rw [← List.append_assoc, cnt_more, HC.out] at DC2
            obtain ⟨S2, hS2⟩ : ∃ S2, S2 = dStr (GZ ++ List.replicate j 0) := ⟨_, rfl⟩
            have hz2 : S2.size = GZ.length + j := by rw [hS2, dStr_size, List.length_append, List.length_replicate]
            rw [← hS2] at a2 DC2
            have HS2 := Lib.hid hS2
            obtain ⟨CJ, hCJ⟩ : ∃ CJ, CJ = C + j := ⟨_, rfl⟩
            rw [← hCJ] at DC2
            have HCJ := Lib.hid hCJ
            clear hS2
            go_wp2_with fail
            clear a0 a1 a2
            (with_reducible refine (DC2.out _).mono ?_)
            rintro e W5 ⟨rfl, hb5⟩
            have hz5 := hb5.size
            obtain ⟨a0, a1, a2⟩ := HCA.out.keep hb5 (by omega)
            have HA5 := Lib.hid (HCA.out.keep hb5 (by omega))
            have HR5 := Lib.hid (HCR.out.keep hb5 (by omega))
            have hfa5 := frozen_keep HFA.out hb5 (by omega)
            have HFA5 := Lib.hid hfa5
            have HFR5 := Lib.hid (frozen_keep HFR.out hb5 (by omega))
            have HW5 := Lib.hid (HW.out.trans (hb5.mono HW.out.size))
            have hzw5 : w.heap.size + 2 ≤ W5.heap.size := by omega
            rw [← HS2.out] at a2
            clear hb5 hz5 hzw
            by_cases hlt : CJ < least
            · have g1 : (CJ : Int) < (least : Int) := by omega
              have g6 : ¬ 9223372036854775807 < S2.size + 1 := by omega
              have g7 : ¬ 9223372036854775807 < GZ.length + j + 1 := by omega
              have HX : Hid (S2 ++ (⟨#[48]⟩ : ByteArray) = dStr (GZ ++ List.replicate (j + 1) 0)) := by
                show _ = _
                rw [HS2.out, show (⟨#[48]⟩ : ByteArray) = dStr [0] from rfl, dStr_append, List.append_assoc, List.replicate_succ']
              have HZ5 := Lib.hid hzw5
              have HZ2 := Lib.hid hz2
              clear hzw5
              go_wp2
              go_roundw
              case rel =>
                refine ⟨j + 1, by omega, ?_, ?_, ?_, ?_, HW5.out.setCell (p := ⟨w.heap.size, 2, none⟩) (Nat.le_refl _) _, by have := HZ5.out; simpa [World.setCell] using this⟩
                · rw [← HX.out]
                  exact ⟨cell_set_far _ _ _ _ _ _ (by decide) HA5.out.1, cell_set_far _ _ _ _ _ _ (by decide) HA5.out.2.1, cell_set_same _ _ _ _ HA5.out.2.2⟩
                · exact ⟨(World.cell?_setCell_other _ _ _ _ (fun e => by have := congrArg Addr.block e; simp at this)).trans HR5.out.1, (World.cell?_setCell_other _ _ _ _ (fun e => by have := congrArg Addr.block e; simp at this)).trans HR5.out.2.1, (World.cell?_setCell_other _ _ _ _ (fun e => by have := congrArg Addr.block e; simp at this)).trans HR5.out.2.2⟩
                · intro i; simpa using HFA5.out i
                · intro i; simpa using HFR5.out i
              case measure =>
                unfold cellSz
                rw [cell_set_same _ _ _ _ HA5.out.2.2, HCA.out.2.2]
                show 1000 - (S2 ++ (⟨#[48]⟩ : ByteArray)).size < 1000 - (dStr (GZ ++ List.replicate j 0)).size
                rw [HX.out, dStr_size, dStr_size]
                simp
                omega
            · have g1 : ¬ (CJ : Int) < (least : Int) := by omega
              have SX : Hid (S2 = dStr (GZ ++ List.replicate (least - C) 0)) := by
                show _ = _
                rw [HS2.out, show j = least - C by omega]
              go_wp2_with fail
              clear a0 a1 a2
              (with_reducible refine (DBD.out _ ?_).mono ?_)
              · exact SX.out
              rintro e W6 ⟨rfl, hb6⟩
              obtain ⟨r0, r1, r2⟩ := HR5.out.keep hb6 (by omega)
              have z0 := frozen_keep HFR5.out hb6 (by omega)
              obtain ⟨e0, e1, e2⟩ := res_cells r0 r1 r2 (.bool zn) (.string zi) (.string zf)
              have HB6 := Lib.hid (HW5.out.trans (hb6.mono HW5.out.size))
              clear hb6
              go_wp2
              exact bodyPost_ret (v := .tuple #[.agg #[.bool zn, .string zi, .string zf], .int .i64 c]) (by simp [results, Try.results28, go_sem, e0, e1, e2]) rfl ⟨rfl, res_below HB6.out (by omega) _ _ _⟩
        · obtain rfl : k = 0 := by omega
          go_wp2_with fail
          have HA3 : Hid (Cells3 W2 w.heap.size (.bool xn) (.string (dStr xi)) (.string (dStr GZ))) := by
            show Cells3 _ _ _ _ _
            rw [HF0.out, ← KE.out]
            exact HA2.out
          clear a0 a1 a2
          go_loopw [] (fun wr => ∃ j : Nat, j ≤ least - C ∧ Cells3 wr w.heap.size (.bool xn) (.string (dStr xi)) (.string (dStr (GZ ++ List.replicate j 0))) ∧ Cells3 wr (w.heap.size + 1) (.bool false) (.string ⟨#[]⟩) (.string ⟨#[]⟩) ∧ (∀ i, wr.frozen? ⟨w.heap.size, i, none⟩ = false) ∧ (∀ i, wr.frozen? ⟨w.heap.size + 1, i, none⟩ = false) ∧ Below w.heap.size w wr ∧ w.heap.size + 2 ≤ wr.heap.size) (fun wr => 1000 - cellSz wr ⟨w.heap.size, 2, none⟩)
          case atStart => exact ⟨0, by omega, by rw [List.replicate_zero, List.append_nil]; exact HA3.out, HR2.out, HFA2.out, HFR2.out, HW2.out, hzw2⟩
          case round =>
            obtain ⟨j, hj, hca, hcr, hfa, hfr, hbw, hzw⟩ := hrel
            have HCA := Lib.hid hca
            have HCR := Lib.hid hcr
            have HFA := Lib.hid hfa
            have HFR := Lib.hid hfr
            have HW := Lib.hid hbw
            obtain ⟨a0, a1, a2⟩ := hca
            clear hcr hfr hbw hfa
            have hF0l := HF0l.out
            have DC2 := Lib.hid (fun wx => count_any xn xi (GZ ++ List.replicate j 0) wx HDI.out (HF0d.out.append (.zeros j)) (by rw [List.length_append, List.length_replicate]; omega))
            rw [← List.append_assoc, cnt_more, HC.out] at DC2
            obtain ⟨S2, hS2⟩ : ∃ S2, S2 = dStr (GZ ++ List.replicate j 0) := ⟨_, rfl⟩
            have hz2 : S2.size = GZ.length + j := by rw [hS2, dStr_size, List.length_append, List.length_replicate]
            rw [← hS2] at a2 DC2
            have HS2 := Lib.hid hS2
            obtain ⟨CJ, hCJ⟩ : ∃ CJ, CJ = C + j := ⟨_, rfl⟩
            rw [← hCJ] at DC2
            have HCJ := Lib.hid hCJ
            clear hS2
            go_wp2_with fail
            clear a0 a1 a2
            (with_reducible refine (DC2.out _).mono ?_)
            rintro e W5 ⟨rfl, hb5⟩
            have hz5 := hb5.size
            obtain ⟨a0, a1, a2⟩ := HCA.out.keep hb5 (by omega)
            have HA5 := Lib.hid (HCA.out.keep hb5 (by omega))
            have HR5 := Lib.hid (HCR.out.keep hb5 (by omega))
            have hfa5 := frozen_keep HFA.out hb5 (by omega)
            have HFA5 := Lib.hid hfa5
            have HFR5 := Lib.hid (frozen_keep HFR.out hb5 (by omega))
            have HW5 := Lib.hid (HW.out.trans (hb5.mono HW.out.size))
            have hzw5 : w.heap.size + 2 ≤ W5.heap.size := by omega
            rw [← HS2.out] at a2
            clear hb5 hz5 hzw
            by_cases hlt : CJ < least
            · have g1 : (CJ : Int) < (least : Int) := by omega
              have g6 : ¬ 9223372036854775807 < S2.size + 1 := by omega
              have g7 : ¬ 9223372036854775807 < GZ.length + j + 1 := by omega
              have HX : Hid (S2 ++ (⟨#[48]⟩ : ByteArray) = dStr (GZ ++ List.replicate (j + 1) 0)) := by
                show _ = _
                rw [HS2.out, show (⟨#[48]⟩ : ByteArray) = dStr [0] from rfl, dStr_append, List.append_assoc, List.replicate_succ']
              have HZ5 := Lib.hid hzw5
              have HZ2 := Lib.hid hz2
              clear hzw5
              go_wp2
              go_roundw
              case rel =>
                refine ⟨j + 1, by omega, ?_, ?_, ?_, ?_, HW5.out.setCell (p := ⟨w.heap.size, 2, none⟩) (Nat.le_refl _) _, by have := HZ5.out; simpa [World.setCell] using this⟩
                · rw [← HX.out]
                  exact ⟨cell_set_far _ _ _ _ _ _ (by decide) HA5.out.1, cell_set_far _ _ _ _ _ _ (by decide) HA5.out.2.1, cell_set_same _ _ _ _ HA5.out.2.2⟩
                · exact ⟨(World.cell?_setCell_other _ _ _ _ (fun e => by have := congrArg Addr.block e; simp at this)).trans HR5.out.1, (World.cell?_setCell_other _ _ _ _ (fun e => by have := congrArg Addr.block e; simp at this)).trans HR5.out.2.1, (World.cell?_setCell_other _ _ _ _ (fun e => by have := congrArg Addr.block e; simp at this)).trans HR5.out.2.2⟩
                · intro i; simpa using HFA5.out i
                · intro i; simpa using HFR5.out i
              case measure =>
                unfold cellSz
                rw [cell_set_same _ _ _ _ HA5.out.2.2, HCA.out.2.2]
                show 1000 - (S2 ++ (⟨#[48]⟩ : ByteArray)).size < 1000 - (dStr (GZ ++ List.replicate j 0)).size
                rw [HX.out, dStr_size, dStr_size]
                simp
                omega
            · have g1 : ¬ (CJ : Int) < (least : Int) := by omega
              have SX : Hid (S2 = dStr (GZ ++ List.replicate (least - C) 0)) := by
                show _ = _
                rw [HS2.out, show j = least - C by omega]
              go_wp2_with fail
              clear a0 a1 a2
              (with_reducible refine (DBD.out _ ?_).mono ?_)
              · exact SX.out
              rintro e W6 ⟨rfl, hb6⟩
              obtain ⟨r0, r1, r2⟩ := HR5.out.keep hb6 (by omega)
              have z0 := frozen_keep HFR5.out hb6 (by omega)
              obtain ⟨e0, e1, e2⟩ := res_cells r0 r1 r2 (.bool zn) (.string zi) (.string zf)
              have HB6 := Lib.hid (HW5.out.trans (hb6.mono HW5.out.size))
              clear hb6
              go_wp2
              exact bodyPost_ret (v := .tuple #[.agg #[.bool zn, .string zi, .string zf], .int .i64 c]) (by simp [results, Try.results28, go_sem, e0, e1, e2]) rfl ⟨rfl, res_below HB6.out (by omega) _ _ _⟩
      · have g1 : ¬ (least : Int) < (K : Int) := by omega
        go_wp2_with fail
        have HA3 : Hid (Cells3 W2 w.heap.size (.bool xn) (.string (dStr xi)) (.string (dStr GZ))) := by
          show Cells3 _ _ _ _ _
          rw [HF0.out, ← KE.out]
          exact HA2.out
        clear a0 a1 a2
        go_loopw [] (fun wr => ∃ j : Nat, j ≤ least - C ∧ Cells3 wr w.heap.size (.bool xn) (.string (dStr xi)) (.string (dStr (GZ ++ List.replicate j 0))) ∧ Cells3 wr (w.heap.size + 1) (.bool false) (.string ⟨#[]⟩) (.string ⟨#[]⟩) ∧ (∀ i, wr.frozen? ⟨w.heap.size, i, none⟩ = false) ∧ (∀ i, wr.frozen? ⟨w.heap.size + 1, i, none⟩ = false) ∧ Below w.heap.size w wr ∧ w.heap.size + 2 ≤ wr.heap.size) (fun wr => 1000 - cellSz wr ⟨w.heap.size, 2, none⟩)
        case atStart => exact ⟨0, by omega, by rw [List.replicate_zero, List.append_nil]; exact HA3.out, HR2.out, HFA2.out, HFR2.out, HW2.out, hzw2⟩
        case round =>
          obtain ⟨j, hj, hca, hcr, hfa, hfr, hbw, hzw⟩ := hrel
          have HCA := Lib.hid hca
          have HCR := Lib.hid hcr
          have HFA := Lib.hid hfa
          have HFR := Lib.hid hfr
          have HW := Lib.hid hbw
          obtain ⟨a0, a1, a2⟩ := hca
          clear hcr hfr hbw hfa
          have hF0l := HF0l.out
          have DC2 := Lib.hid (fun wx => count_any xn xi (GZ ++ List.replicate j 0) wx HDI.out (HF0d.out.append (.zeros j)) (by rw [List.length_append, List.length_replicate]; omega))
          rw [← List.append_assoc, cnt_more, HC.out] at DC2
          obtain ⟨S2, hS2⟩ : ∃ S2, S2 = dStr (GZ ++ List.replicate j 0) := ⟨_, rfl⟩
          have hz2 : S2.size = GZ.length + j := by rw [hS2, dStr_size, List.length_append, List.length_replicate]
          rw [← hS2] at a2 DC2
          have HS2 := Lib.hid hS2
          obtain ⟨CJ, hCJ⟩ : ∃ CJ, CJ = C + j := ⟨_, rfl⟩
          rw [← hCJ] at DC2
          have HCJ := Lib.hid hCJ
          clear hS2
          go_wp2_with fail
          clear a0 a1 a2
          (with_reducible refine (DC2.out _).mono ?_)
          rintro e W5 ⟨rfl, hb5⟩
          have hz5 := hb5.size
          obtain ⟨a0, a1, a2⟩ := HCA.out.keep hb5 (by omega)
          have HA5 := Lib.hid (HCA.out.keep hb5 (by omega))
          have HR5 := Lib.hid (HCR.out.keep hb5 (by omega))
          have hfa5 := frozen_keep HFA.out hb5 (by omega)
          have HFA5 := Lib.hid hfa5
          have HFR5 := Lib.hid (frozen_keep HFR.out hb5 (by omega))
          have HW5 := Lib.hid (HW.out.trans (hb5.mono HW.out.size))
          have hzw5 : w.heap.size + 2 ≤ W5.heap.size := by omega
          rw [← HS2.out] at a2
          clear hb5 hz5 hzw
          by_cases hlt : CJ < least
          · have g1 : (CJ : Int) < (least : Int) := by omega
            have g6 : ¬ 9223372036854775807 < S2.size + 1 := by omega
            have g7 : ¬ 9223372036854775807 < GZ.length + j + 1 := by omega
            have HX : Hid (S2 ++ (⟨#[48]⟩ : ByteArray) = dStr (GZ ++ List.replicate (j + 1) 0)) := by
              show _ = _
              rw [HS2.out, show (⟨#[48]⟩ : ByteArray) = dStr [0] from rfl, dStr_append, List.append_assoc, List.replicate_succ']
            have HZ5 := Lib.hid hzw5
            have HZ2 := Lib.hid hz2
            clear hzw5
            go_wp2
            go_roundw
            case rel =>
              refine ⟨j + 1, by omega, ?_, ?_, ?_, ?_, HW5.out.setCell (p := ⟨w.heap.size, 2, none⟩) (Nat.le_refl _) _, by have := HZ5.out; simpa [World.setCell] using this⟩
              · rw [← HX.out]
                exact ⟨cell_set_far _ _ _ _ _ _ (by decide) HA5.out.1, cell_set_far _ _ _ _ _ _ (by decide) HA5.out.2.1, cell_set_same _ _ _ _ HA5.out.2.2⟩
              · exact ⟨(World.cell?_setCell_other _ _ _ _ (fun e => by have := congrArg Addr.block e; simp at this)).trans HR5.out.1, (World.cell?_setCell_other _ _ _ _ (fun e => by have := congrArg Addr.block e; simp at this)).trans HR5.out.2.1, (World.cell?_setCell_other _ _ _ _ (fun e => by have := congrArg Addr.block e; simp at this)).trans HR5.out.2.2⟩
              · intro i; simpa using HFA5.out i
              · intro i; simpa using HFR5.out i
            case measure =>
              unfold cellSz
              rw [cell_set_same _ _ _ _ HA5.out.2.2, HCA.out.2.2]
              show 1000 - (S2 ++ (⟨#[48]⟩ : ByteArray)).size < 1000 - (dStr (GZ ++ List.replicate j 0)).size
              rw [HX.out, dStr_size, dStr_size]
              simp
              omega
          · have g1 : ¬ (CJ : Int) < (least : Int) := by omega
            have SX : Hid (S2 = dStr (GZ ++ List.replicate (least - C) 0)) := by
              show _ = _
              rw [HS2.out, show j = least - C by omega]
            go_wp2_with fail
            clear a0 a1 a2
            (with_reducible refine (DBD.out _ ?_).mono ?_)
            · exact SX.out
            rintro e W6 ⟨rfl, hb6⟩
            obtain ⟨r0, r1, r2⟩ := HR5.out.keep hb6 (by omega)
            have z0 := frozen_keep HFR5.out hb6 (by omega)
            obtain ⟨e0, e1, e2⟩ := res_cells r0 r1 r2 (.bool zn) (.string zi) (.string zf)
            have HB6 := Lib.hid (HW5.out.trans (hb6.mono HW5.out.size))
            clear hb6
            go_wp2
            exact bodyPost_ret (v := .tuple #[.agg #[.bool zn, .string zi, .string zf], .int .i64 c]) (by simp [results, Try.results28, go_sem, e0, e1, e2]) rfl ⟨rfl, res_below HB6.out (by omega) _ _ _⟩
end Go.Proofs.Ytcdmanhhddcmcaa

namespace Go.Proofs.Ytcdmanhhddcmcaa
open Go.RowKit
attribute [local go_sem ↓] Go.wp_at_zero Go.wp_at_succ

set_option maxHeartbeats 4000000 in
set_option maxRecDepth 100000 in
theorem rs_zero (xn : Bool) (xi xf : List Nat) (mode most : Int) (least : Nat) (s : Int) (zn : Bool) (zi zf : ByteArray) (c : Int) (w : World) (H1 : (∀ wx : World, Calls Try.prog 60 #[(.agg #[.bool xn, .string (dStr xi), .string (dStr xf)]), .int .i64 mode] wx fun e w' => e = .returned (.int .i64 0) ∧ Below wx.heap.size wx w')) (H2 : (∀ wx : World, Calls Try.prog 61 #[(.agg #[.bool xn, .string (dStr xi), .string (dStr xf)])] wx fun e w' => e = .returned (.int .i64 s) ∧ Below wx.heap.size wx w')) (H3 : (∀ (wx : World) {X : ByteArray}, X = dStr xi ++ dStr xf → Calls Try.prog 62 #[.string X] wx fun r w' => r = .returned (.string ⟨#[48]⟩) ∧ wx = w')) (H9 : (∀ (wx : World) {F : ByteArray}, F = dStr (xf.take (cutS xi xf least xf.length) ++ List.replicate (least - cntL (xi ++ xf.take (cutS xi xf least xf.length))) 0) → Calls Try.prog 66 #[.agg #[.bool xn, .string (dStr xi), .string F]] wx fun r w' => r = .returned (.tuple #[.agg #[.bool zn, .string zi, .string zf], .int .i64 c]) ∧ Below wx.heap.size wx w')) (h0 : 1 ≤ least) (h1 : least ≤ 40) (h2 : ¬ most < (least : Int)) (h3 : ¬ 40 < most) (hm : xi.length + xf.length ≤ 40) (hdi : Digs xi) (hdf : Digs xf) (hs : 0 < s - most) (b0 : 0 ≤ s) (b1 : s ≤ 1000) (b2 : 0 ≤ most) :
    Calls Try.prog 28 #[(.agg #[.bool xn, .string (dStr xi), .string (dStr xf)]), .int .i64 mode, .int .i64 (least : Int), .int .i64 most] w fun e w' => e = .returned (.tuple #[(.agg #[.bool zn, .string zi, .string zf]), .int .i64 c]) ∧ Below w.heap.size w w' := by
  have D1 := Lib.hid H1
  have D2 := Lib.hid H2
  have D3 := Lib.hid H3
  have D9 := Lib.hid H9
  clear H1 H2 H3 H9
  have q0 : ((0 : Int) != 0) = false := by decide
  have q10 : decide ((least : Int) < 1) = false := decide_eq_false (by omega)
  have q11 : decide ((40 : Int) < (least : Int)) = false := decide_eq_false (by omega)
  have q12 : decide (most < (least : Int)) = false := decide_eq_false h2
  have q13 : decide (40 < most) = false := decide_eq_false h3
  have HDF := Lib.hid hdf
  have HDI := Lib.hid hdi
  have wzs : IntKind.i64.wrap (s - most) = s - most := IntWalk.i64_in _ (by omega)
  have qs : decide (0 < s - most) = true := decide_eq_true hs
  clear hdf hdi h2 h3
  have gov : ¬ 9223372036854775807 < (dStr xi).size + (dStr xf).size := by rw [dStr_size, dStr_size]; omega
  go_enter Try.func28, Try.ntmps28
  go_wp2_with fail
  obtain ⟨W0, hW0⟩ : ∃ W0, W0 = ((w.alloc (.cells #[.bool xn, .string (dStr xi), .string (dStr xf)] 23)).alloc (.cells #[.bool false, .string ⟨#[]⟩, .string ⟨#[]⟩] 23)) := ⟨_, rfl⟩
  obtain ⟨hB, hz, C0, C1, FL⟩ : Below w.heap.size w W0 ∧ w.heap.size + 2 ≤ W0.heap.size ∧ Cells3 W0 w.heap.size (.bool xn) (.string (dStr xi)) (.string (dStr xf)) ∧ Cells3 W0 (w.heap.size + 1) (.bool false) (.string ⟨#[]⟩) (.string ⟨#[]⟩) ∧ ∀ i, W0.frozen? ⟨(w.heap.size + 1), i, none⟩ = false := by rw [hW0]; exact ⟨below_two w _ _, two_boxes w _ _ _ _ _ _ _⟩
  have z0 : w.heap.size + 1 ≤ W0.heap.size := by omega
  have z1 : (w.heap.size + 1) + 1 ≤ W0.heap.size := by omega
  rw [← hW0]
  have HB := Lib.hid hB
  have F1 := Lib.hid FL
  have F0 := Lib.hid (show ∀ i, W0.frozen? ⟨w.heap.size, i, none⟩ = false by rw [hW0]; exact frozen_keep (one_box w (.bool xn) (.string (dStr xi)) (.string (dStr xf)) 23).2.2 ((Below.refl _ _).alloc (Nat.le_refl _) _) (by simp))
  clear hW0 hB hz FL
  (with_reducible refine (D1.out _).mono ?_)
  rintro e V1 ⟨rfl, hb⟩
  replace F0 := Lib.hid (frozen_keep F0.out hb (by omega))
  replace F1 := Lib.hid (frozen_keep F1.out hb (by omega))
  replace C0 := C0.keep hb (by omega)
  replace z0 : w.heap.size + 1 ≤ V1.heap.size := by have := hb.size; omega
  replace C1 := C1.keep hb (by omega)
  replace z1 : (w.heap.size + 1) + 1 ≤ V1.heap.size := by have := hb.size; omega
  replace HB := Lib.hid (HB.out.trans (hb.mono HB.out.size))
  clear hb
  have o00 := C0.1
  have o10 := C1.1
  have o01 := C0.2.1
  have o02 := C0.2.2
  have o11 := C1.2.1
  have o12 := C1.2.2
  go_wp2_with fail
  clear o00 o01 o02 o10 o11 o12
  (with_reducible refine (D2.out _).mono ?_)
  rintro e V2 ⟨rfl, hb⟩
  replace F0 := Lib.hid (frozen_keep F0.out hb (by omega))
  replace F1 := Lib.hid (frozen_keep F1.out hb (by omega))
  replace C0 := C0.keep hb (by omega)
  replace z0 : w.heap.size + 1 ≤ V2.heap.size := by have := hb.size; omega
  replace C1 := C1.keep hb (by omega)
  replace z1 : (w.heap.size + 1) + 1 ≤ V2.heap.size := by have := hb.size; omega
  replace HB := Lib.hid (HB.out.trans (hb.mono HB.out.size))
  clear hb
  have o00 := C0.1
  have o10 := C1.1
  have o01 := C0.2.1
  have o02 := C0.2.2
  have o11 := C1.2.1
  have o12 := C1.2.2
  go_wp2_with fail
  (with_reducible refine (D3.out _ ?_).mono ?_)
  · rfl
  rintro e V3 ⟨rfl, rfl⟩
  go_wp2_with fail
  obtain ⟨GZ, hF0⟩ : ∃ GZ, GZ = xf.take (cutS xi xf least xf.length) := ⟨_, rfl⟩
  obtain ⟨C, hC⟩ : ∃ C, C = cntL (xi ++ GZ) := ⟨_, rfl⟩
  have HF0 := Lib.hid hF0
  have HC := Lib.hid hC.symm
  have HF0d : Hid (Digs GZ) := by show Digs _; rw [hF0]; exact HDF.out.take _
  have HF0l : Hid (GZ.length ≤ 100) := by show _ ≤ _; rw [hF0, List.length_take]; omega
  have DBD : Hid (∀ (wx : World) {F : ByteArray}, F = dStr (GZ ++ List.replicate (least - C) 0) → Calls Try.prog 66 #[.agg #[.bool xn, .string (dStr xi), .string F]] wx fun r w' => r = .returned (.tuple #[.agg #[.bool zn, .string zi, .string zf], .int .i64 c]) ∧ Below wx.heap.size wx w') := by
    show ∀ wx : World, _
    rw [hC, hF0]
    exact D9.out
  clear hF0 hC
  go_loopw [] (fun wr => ∃ k : Nat, k ≤ xf.length ∧ cutS xi xf least k = cutS xi xf least xf.length ∧ Cells3 wr w.heap.size (.bool xn) (.string (dStr xi)) (.string (dStr (xf.take k))) ∧ Cells3 wr (w.heap.size + 1) (.bool false) (.string ⟨#[]⟩) (.string ⟨#[]⟩) ∧ (∀ i, wr.frozen? ⟨w.heap.size, i, none⟩ = false) ∧ (∀ i, wr.frozen? ⟨w.heap.size + 1, i, none⟩ = false) ∧ Below w.heap.size w wr ∧ w.heap.size + 2 ≤ wr.heap.size) (fun wr => cellSz wr ⟨w.heap.size, 2, none⟩)
  case atStart => exact ⟨xf.length, Nat.le_refl _, rfl, by rw [List.take_length]; exact C0, C1, F0.out, F1.out, HB.out, by omega⟩
  case round =>
    obtain ⟨k, hk, hE, hca, hcr, hfa, hfr, hbw, hzw⟩ := hrel
    have HE := Lib.hid hE
    have HCA := Lib.hid hca
    have HCR := Lib.hid hcr
    have HFA := Lib.hid hfa
    have HFR := Lib.hid hfr
    have HW := Lib.hid hbw
    obtain ⟨a0, a1, a2⟩ := hca
    clear hE hcr hfr hbw hfa
    have DCk := Lib.hid (fun wx => count_any xn xi (xf.take k) wx HDI.out (HDF.out.take k) (by rw [List.length_take]; omega))
    obtain ⟨S, hS⟩ : ∃ S, S = dStr (xf.take k) := ⟨_, rfl⟩
    have hz : S.size = k := by rw [hS, dStr_size, List.length_take]; omega
    rw [← hS] at a2 DCk
    have HS := Lib.hid hS
    clear hS
    obtain ⟨K, hK⟩ : ∃ K, K = cntL (xi ++ xf.take k) := ⟨_, rfl⟩
    have HK := Lib.hid hK
    have hKb : K ≤ 1000 := by
      rw [hK]
      exact cnt_le (n := 100) (HDI.out.append (HDF.out.take k)) (by rw [List.length_append, List.length_take]; omega) (by omega)
    rw [← hK] at DCk
    clear hK
    by_cases hgo : least < K ∧ 0 < k ∧ xf.getD (k - 1) 0 = 0
    · obtain ⟨m, rfl⟩ : ∃ m, k = m + 1 := ⟨k - 1, by omega⟩
      obtain ⟨g1, -, h0⟩ := hgo
      rw [Nat.add_sub_cancel] at h0
      have hms : m < S.size := by omega
      have hget : (S[m]'hms).toNat = 48 + (xf.take (m + 1)).getD m 0 := by
        have e := HS.out
        subst e
        exact dStr_get _ (HDF.out.take _) m hms
      have hg2 : (xf.take (m + 1)).getD m 0 = xf.getD m 0 := by
        rw [List.getD_eq_getElem?_getD, List.getD_eq_getElem?_getD, List.getElem?_take, if_pos (by omega)]
      rw [hg2, h0] at hget
      have q48 : (((S[m]'hms).toNat : Int) == 48) = true := by rw [hget]; rfl
      have g2 : (least : Int) < (K : Int) := by omega
      have ST := Lib.hid (show cutS xi xf least (m + 1) = cutS xi xf least m from if_pos ⟨by rw [← HK.out]; exact g1, h0⟩)
      have HX := Lib.hid (show S.extract 0 m = dStr (xf.take m) by rw [HS.out, dStr_ext, List.drop_zero, List.take_take, Nat.min_eq_left (by omega)])
      have HZ := Lib.hid hz
      have HZW := Lib.hid hzw
      clear hget h0 hg2
      go_wp2_with fail
      clear a0 a1 a2
      (with_reducible refine (DCk.out _).mono ?_)
      rintro e W2 ⟨rfl, hb2⟩
      have hz2 := hb2.size
      obtain ⟨a0, a1, a2⟩ := HCA.out.keep hb2 (by omega)
      have HA2 := Lib.hid (HCA.out.keep hb2 (by omega))
      have HR2 := Lib.hid (HCR.out.keep hb2 (by omega))
      have hfa2 := frozen_keep HFA.out hb2 (by omega)
      have HFA2 := Lib.hid hfa2
      have HFR2 := Lib.hid (frozen_keep HFR.out hb2 (by omega))
      have HW2 := Lib.hid (HW.out.trans (hb2.mono HW.out.size))
      have HZ2 : Hid (w.heap.size + 2 ≤ W2.heap.size) := by show _ ≤ _; omega
      rw [← HS.out] at a2
      clear hb2 hz2 hzw
      go_wp2
      go_roundw
      case rel =>
        refine ⟨m, by omega, by rw [← HE.out, ST.out], ?_, ?_, ?_, ?_, HW2.out.setCell (p := ⟨w.heap.size, 2, none⟩) (Nat.le_refl _) _, by have := HZ2.out; simpa [World.setCell] using this⟩
        · rw [← HX.out]
          exact ⟨cell_set_far _ _ _ _ _ _ (by decide) HA2.out.1, cell_set_far _ _ _ _ _ _ (by decide) HA2.out.2.1, cell_set_same _ _ _ _ HA2.out.2.2⟩
        · exact ⟨(World.cell?_setCell_other _ _ _ _ (fun e => by have := congrArg Addr.block e; simp at this)).trans HR2.out.1, (World.cell?_setCell_other _ _ _ _ (fun e => by have := congrArg Addr.block e; simp at this)).trans HR2.out.2.1, (World.cell?_setCell_other _ _ _ _ (fun e => by have := congrArg Addr.block e; simp at this)).trans HR2.out.2.2⟩
        · intro i; simpa using HFA2.out i
        · intro i; simpa using HFR2.out i
      case measure =>
        unfold cellSz
        rw [cell_set_same _ _ _ _ HA2.out.2.2, HCA.out.2.2]
        simp [dStr_size]
        omega
    · have KE : Hid (k = cutS xi xf least xf.length) := by
        show _ = _
        rw [← HE.out]
        cases k with
        | zero => rfl
        | succ m => exact (if_neg (fun h => hgo ⟨by rw [HK.out]; exact h.1, by omega, by rw [Nat.add_sub_cancel]; exact h.2⟩)).symm
      go_wp2_with fail
      clear a0 a1 a2
      (with_reducible refine (DCk.out _).mono ?_)
      rintro e W2 ⟨rfl, hb2⟩
      have hz2 := hb2.size
      obtain ⟨a0, a1, a2⟩ := HCA.out.keep hb2 (by omega)
      have HA2 := Lib.hid (HCA.out.keep hb2 (by omega))
      have HR2 := Lib.hid (HCR.out.keep hb2 (by omega))
      have HFA2 := Lib.hid (frozen_keep HFA.out hb2 (by omega))
      have HFR2 := Lib.hid (frozen_keep HFR.out hb2 (by omega))
      have HW2 := Lib.hid (HW.out.trans (hb2.mono HW.out.size))
      have hzw2 : w.heap.size + 2 ≤ W2.heap.size := by omega
      rw [← HS.out] at a2
      clear hb2 hz2 hzw
      by_cases hk1 : least < K
      · have g1 : (least : Int) < (K : Int) := by omega
        by_cases hk2 : 0 < k
        · obtain ⟨m, rfl⟩ : ∃ m, k = m + 1 := ⟨k - 1, by omega⟩
          have hms : m < S.size := by omega
          have hget : (S[m]'hms).toNat = 48 + (xf.take (m + 1)).getD m 0 := by
            have e := HS.out
            subst e
            exact dStr_get _ (HDF.out.take _) m hms
          have hg2 : (xf.take (m + 1)).getD m 0 = xf.getD m 0 := by
            rw [List.getD_eq_getElem?_getD, List.getD_eq_getElem?_getD, List.getElem?_take, if_pos (by omega)]
          have hne : xf.getD m 0 ≠ 0 := fun h => hgo ⟨hk1, hk2, by rw [Nat.add_sub_cancel]; exact h⟩
          have q48 : (((S[m]'hms).toNat : Int) == 48) = false := by rw [hget, hg2, beq_eq_false_iff_ne]; omega
          clear hgo hget hg2 hne
          go_wp2_with fail
          have HA3 : Hid (Cells3 W2 w.heap.size (.bool xn) (.string (dStr xi)) (.string (dStr GZ))) := by
            show Cells3 _ _ _ _ _
            rw [HF0.out, ← KE.out]
            exact HA2.out
          clear a0 a1 a2
          go_loopw [] (fun wr => ∃ j : Nat, j ≤ least - C ∧ Cells3 wr w.heap.size (.bool xn) (.string (dStr xi)) (.string (dStr (GZ ++ List.replicate j 0))) ∧ Cells3 wr (w.heap.size + 1) (.bool false) (.string ⟨#[]⟩) (.string ⟨#[]⟩) ∧ (∀ i, wr.frozen? ⟨w.heap.size, i, none⟩ = false) ∧ (∀ i, wr.frozen? ⟨w.heap.size + 1, i, none⟩ = false) ∧ Below w.heap.size w wr ∧ w.heap.size + 2 ≤ wr.heap.size) (fun wr => 1000 - cellSz wr ⟨w.heap.size, 2, none⟩)
          case atStart => exact ⟨0, by omega, by rw [List.replicate_zero, List.append_nil]; exact HA3.out, HR2.out, HFA2.out, HFR2.out, HW2.out, hzw2⟩
          case round =>
            obtain ⟨j, hj, hca, hcr, hfa, hfr, hbw, hzw⟩ := hrel
            have HCA := Lib.hid hca
            have HCR := Lib.hid hcr
            have HFA := Lib.hid hfa
            have HFR := Lib.hid hfr
            have HW := Lib.hid hbw
            obtain ⟨a0, a1, a2⟩ := hca
            clear hcr hfr hbw hfa
            have hF0l := HF0l.out
            have DC2 := Lib.hid (fun wx => count_any xn xi (GZ ++ List.replicate j 0) wx HDI.out (HF0d.out.append (.zeros j)) (by rw [List.length_append, List.length_replicate]; omega))
            rw [← List.append_assoc, cnt_more, HC.out] at DC2
            obtain ⟨S2, hS2⟩ : ∃ S2, S2 = dStr (GZ ++ List.replicate j 0) := ⟨_, rfl⟩
            have hz2 : S2.size = GZ.length + j := by rw [hS2, dStr_size, List.length_append, List.length_replicate]
            rw [← hS2] at a2 DC2
            have HS2 := Lib.hid hS2
            obtain ⟨CJ, hCJ⟩ : ∃ CJ, CJ = C + j := ⟨_, rfl⟩
            rw [← hCJ] at DC2
            have HCJ := Lib.hid hCJ
            clear hS2
            go_wp2_with fail
            clear a0 a1 a2
            (with_reducible refine (DC2.out _).mono ?_)
            rintro e W5 ⟨rfl, hb5⟩
            have hz5 := hb5.size
            obtain ⟨a0, a1, a2⟩ := HCA.out.keep hb5 (by omega)
            have HA5 := Lib.hid (HCA.out.keep hb5 (by omega))
            have HR5 := Lib.hid (HCR.out.keep hb5 (by omega))
            have hfa5 := frozen_keep HFA.out hb5 (by omega)
            have HFA5 := Lib.hid hfa5
            have HFR5 := Lib.hid (frozen_keep HFR.out hb5 (by omega))
            have HW5 := Lib.hid (HW.out.trans (hb5.mono HW.out.size))
            have hzw5 : w.heap.size + 2 ≤ W5.heap.size := by omega
            rw [← HS2.out] at a2
            clear hb5 hz5 hzw
            by_cases hlt : CJ < least
            · have g1 : (CJ : Int) < (least : Int) := by omega
              have g6 : ¬ 9223372036854775807 < S2.size + 1 := by omega
              have g7 : ¬ 9223372036854775807 < GZ.length + j + 1 := by omega
              have HX : Hid (S2 ++ (⟨#[48]⟩ : ByteArray) = dStr (GZ ++ List.replicate (j + 1) 0)) := by
                show _ = _
                rw [HS2.out, show (⟨#[48]⟩ : ByteArray) = dStr [0] from rfl, dStr_append, List.append_assoc, List.replicate_succ']
              have HZ5 := Lib.hid hzw5
              have HZ2 := Lib.hid hz2
              clear hzw5
              go_wp2
              go_roundw
              case rel =>
                refine ⟨j + 1, by omega, ?_, ?_, ?_, ?_, HW5.out.setCell (p := ⟨w.heap.size, 2, none⟩) (Nat.le_refl _) _, by have := HZ5.out; simpa [World.setCell] using this⟩
                · rw [← HX.out]
                  exact ⟨cell_set_far _ _ _ _ _ _ (by decide) HA5.out.1, cell_set_far _ _ _ _ _ _ (by decide) HA5.out.2.1, cell_set_same _ _ _ _ HA5.out.2.2⟩
                · exact ⟨(World.cell?_setCell_other _ _ _ _ (fun e => by have := congrArg Addr.block e; simp at this)).trans HR5.out.1, (World.cell?_setCell_other _ _ _ _ (fun e => by have := congrArg Addr.block e; simp at this)).trans HR5.out.2.1, (World.cell?_setCell_other _ _ _ _ (fun e => by have := congrArg Addr.block e; simp at this)).trans HR5.out.2.2⟩
                · intro i; simpa using HFA5.out i
                · intro i; simpa using HFR5.out i
              case measure =>
                unfold cellSz
                rw [cell_set_same _ _ _ _ HA5.out.2.2, HCA.out.2.2]
                show 1000 - (S2 ++ (⟨#[48]⟩ : ByteArray)).size < 1000 - (dStr (GZ ++ List.replicate j 0)).size
                rw [HX.out, dStr_size, dStr_size]
                simp
                omega
            · have g1 : ¬ (CJ : Int) < (least : Int) := by omega
              have SX : Hid (S2 = dStr (GZ ++ List.replicate (least - C) 0)) := by
                show _ = _
                rw [HS2.out, show j = least - C by omega]
              go_wp2_with fail
              clear a0 a1 a2
              (with_reducible refine (DBD.out _ ?_).mono ?_)
              · exact SX.out
              rintro e W6 ⟨rfl, hb6⟩
              obtain ⟨r0, r1, r2⟩ := HR5.out.keep hb6 (by omega)
              have z0 := frozen_keep HFR5.out hb6 (by omega)
              obtain ⟨e0, e1, e2⟩ := res_cells r0 r1 r2 (.bool zn) (.string zi) (.string zf)
              have HB6 := Lib.hid (HW5.out.trans (hb6.mono HW5.out.size))
              clear hb6
              go_wp2
              exact bodyPost_ret (v := .tuple #[.agg #[.bool zn, .string zi, .string zf], .int .i64 c]) (by simp [results, Try.results28, go_sem, e0, e1, e2]) rfl ⟨rfl, res_below HB6.out (by omega) _ _ _⟩
        · obtain rfl : k = 0 := by omega
          go_wp2_with fail
          have HA3 : Hid (Cells3 W2 w.heap.size (.bool xn) (.string (dStr xi)) (.string (dStr GZ))) := by
            show Cells3 _ _ _ _ _
            rw [HF0.out, ← KE.out]
            exact HA2.out
          clear a0 a1 a2
          go_loopw [] (fun wr => ∃ j : Nat, j ≤ least - C ∧ Cells3 wr w.heap.size (.bool xn) (.string (dStr xi)) (.string (dStr (GZ ++ List.replicate j 0))) ∧ Cells3 wr (w.heap.size + 1) (.bool false) (.string ⟨#[]⟩) (.string ⟨#[]⟩) ∧ (∀ i, wr.frozen? ⟨w.heap.size, i, none⟩ = false) ∧ (∀ i, wr.frozen? ⟨w.heap.size + 1, i, none⟩ = false) ∧ Below w.heap.size w wr ∧ w.heap.size + 2 ≤ wr.heap.size) (fun wr => 1000 - cellSz wr ⟨w.heap.size, 2, none⟩)
          case atStart => exact ⟨0, by omega, by rw [List.replicate_zero, List.append_nil]; exact HA3.out, HR2.out, HFA2.out, HFR2.out, HW2.out, hzw2⟩
          case round =>
            obtain ⟨j, hj, hca, hcr, hfa, hfr, hbw, hzw⟩ := hrel
            have HCA := Lib.hid hca
            have HCR := Lib.hid hcr
            have HFA := Lib.hid hfa
            have HFR := Lib.hid hfr
            have HW := Lib.hid hbw
            obtain ⟨a0, a1, a2⟩ := hca
            clear hcr hfr hbw hfa
            have hF0l := HF0l.out
            have DC2 := Lib.hid (fun wx => count_any xn xi (GZ ++ List.replicate j 0) wx HDI.out (HF0d.out.append (.zeros j)) (by rw [List.length_append, List.length_replicate]; omega))
            rw [← List.append_assoc, cnt_more, HC.out] at DC2
            obtain ⟨S2, hS2⟩ : ∃ S2, S2 = dStr (GZ ++ List.replicate j 0) := ⟨_, rfl⟩
            have hz2 : S2.size = GZ.length + j := by rw [hS2, dStr_size, List.length_append, List.length_replicate]
            rw [← hS2] at a2 DC2
            have HS2 := Lib.hid hS2
            obtain ⟨CJ, hCJ⟩ : ∃ CJ, CJ = C + j := ⟨_, rfl⟩
            rw [← hCJ] at DC2
            have HCJ := Lib.hid hCJ
            clear hS2
            go_wp2_with fail
            clear a0 a1 a2
            (with_reducible refine (DC2.out _).mono ?_)
            rintro e W5 ⟨rfl, hb5⟩
            have hz5 := hb5.size
            obtain ⟨a0, a1, a2⟩ := HCA.out.keep hb5 (by omega)
            have HA5 := Lib.hid (HCA.out.keep hb5 (by omega))
            have HR5 := Lib.hid (HCR.out.keep hb5 (by omega))
            have hfa5 := frozen_keep HFA.out hb5 (by omega)
            have HFA5 := Lib.hid hfa5
            have HFR5 := Lib.hid (frozen_keep HFR.out hb5 (by omega))
            have HW5 := Lib.hid (HW.out.trans (hb5.mono HW.out.size))
            have hzw5 : w.heap.size + 2 ≤ W5.heap.size := by omega
            rw [← HS2.out] at a2
            clear hb5 hz5 hzw
            by_cases hlt : CJ < least
            · have g1 : (CJ : Int) < (least : Int) := by omega
              have g6 : ¬ 9223372036854775807 < S2.size + 1 := by omega
              have g7 : ¬ 9223372036854775807 < GZ.length + j + 1 := by omega
              have HX : Hid (S2 ++ (⟨#[48]⟩ : ByteArray) = dStr (GZ ++ List.replicate (j + 1) 0)) := by
                show _ = _
                rw [HS2.out, show (⟨#[48]⟩ : ByteArray) = dStr [0] from rfl, dStr_append, List.append_assoc, List.replicate_succ']
              have HZ5 := Lib.hid hzw5
              have HZ2 := Lib.hid hz2
              clear hzw5
              go_wp2
              go_roundw
              case rel =>
                refine ⟨j + 1, by omega, ?_, ?_, ?_, ?_, HW5.out.setCell (p := ⟨w.heap.size, 2, none⟩) (Nat.le_refl _) _, by have := HZ5.out; simpa [World.setCell] using this⟩
                · rw [← HX.out]
                  exact ⟨cell_set_far _ _ _ _ _ _ (by decide) HA5.out.1, cell_set_far _ _ _ _ _ _ (by decide) HA5.out.2.1, cell_set_same _ _ _ _ HA5.out.2.2⟩
                · exact ⟨(World.cell?_setCell_other _ _ _ _ (fun e => by have := congrArg Addr.block e; simp at this)).trans HR5.out.1, (World.cell?_setCell_other _ _ _ _ (fun e => by have := congrArg Addr.block e; simp at this)).trans HR5.out.2.1, (World.cell?_setCell_other _ _ _ _ (fun e => by have := congrArg Addr.block e; simp at this)).trans HR5.out.2.2⟩
                · intro i; simpa using HFA5.out i
                · intro i; simpa using HFR5.out i
              case measure =>
                unfold cellSz
                rw [cell_set_same _ _ _ _ HA5.out.2.2, HCA.out.2.2]
                show 1000 - (S2 ++ (⟨#[48]⟩ : ByteArray)).size < 1000 - (dStr (GZ ++ List.replicate j 0)).size
                rw [HX.out, dStr_size, dStr_size]
                simp
                omega
            · have g1 : ¬ (CJ : Int) < (least : Int) := by omega
              have SX : Hid (S2 = dStr (GZ ++ List.replicate (least - C) 0)) := by
                show _ = _
                rw [HS2.out, show j = least - C by omega]
              go_wp2_with fail
              clear a0 a1 a2
              (with_reducible refine (DBD.out _ ?_).mono ?_)
              · exact SX.out
              rintro e W6 ⟨rfl, hb6⟩
              obtain ⟨r0, r1, r2⟩ := HR5.out.keep hb6 (by omega)
              have z0 := frozen_keep HFR5.out hb6 (by omega)
              obtain ⟨e0, e1, e2⟩ := res_cells r0 r1 r2 (.bool zn) (.string zi) (.string zf)
              have HB6 := Lib.hid (HW5.out.trans (hb6.mono HW5.out.size))
              clear hb6
              go_wp2
              exact bodyPost_ret (v := .tuple #[.agg #[.bool zn, .string zi, .string zf], .int .i64 c]) (by simp [results, Try.results28, go_sem, e0, e1, e2]) rfl ⟨rfl, res_below HB6.out (by omega) _ _ _⟩
      · have g1 : ¬ (least : Int) < (K : Int) := by omega
        go_wp2_with fail
        have HA3 : Hid (Cells3 W2 w.heap.size (.bool xn) (.string (dStr xi)) (.string (dStr GZ))) := by
          show Cells3 _ _ _ _ _
          rw [HF0.out, ← KE.out]
          exact HA2.out
        clear a0 a1 a2
        go_loopw [] (fun wr => ∃ j : Nat, j ≤ least - C ∧ Cells3 wr w.heap.size (.bool xn) (.string (dStr xi)) (.string (dStr (GZ ++ List.replicate j 0))) ∧ Cells3 wr (w.heap.size + 1) (.bool false) (.string ⟨#[]⟩) (.string ⟨#[]⟩) ∧ (∀ i, wr.frozen? ⟨w.heap.size, i, none⟩ = false) ∧ (∀ i, wr.frozen? ⟨w.heap.size + 1, i, none⟩ = false) ∧ Below w.heap.size w wr ∧ w.heap.size + 2 ≤ wr.heap.size) (fun wr => 1000 - cellSz wr ⟨w.heap.size, 2, none⟩)
        case atStart => exact ⟨0, by omega, by rw [List.replicate_zero, List.append_nil]; exact HA3.out, HR2.out, HFA2.out, HFR2.out, HW2.out, hzw2⟩
        case round =>
          obtain ⟨j, hj, hca, hcr, hfa, hfr, hbw, hzw⟩ := hrel
          have HCA := Lib.hid hca
          have HCR := Lib.hid hcr
          have HFA := Lib.hid hfa
          have HFR := Lib.hid hfr
          have HW := Lib.hid hbw
          obtain ⟨a0, a1, a2⟩ := hca
          clear hcr hfr hbw hfa
          have hF0l := HF0l.out
          have DC2 := Lib.hid (fun wx => count_any xn xi (GZ ++ List.replicate j 0) wx HDI.out (HF0d.out.append (.zeros j)) (by rw [List.length_append, List.length_replicate]; omega))
          rw [← List.append_assoc, cnt_more, HC.out] at DC2
          obtain ⟨S2, hS2⟩ : ∃ S2, S2 = dStr (GZ ++ List.replicate j 0) := ⟨_, rfl⟩
          have hz2 : S2.size = GZ.length + j := by rw [hS2, dStr_size, List.length_append, List.length_replicate]
          rw [← hS2] at a2 DC2
          have HS2 := Lib.hid hS2
          obtain ⟨CJ, hCJ⟩ : ∃ CJ, CJ = C + j := ⟨_, rfl⟩
          rw [← hCJ] at DC2
          have HCJ := Lib.hid hCJ
          clear hS2
          go_wp2_with fail
          clear a0 a1 a2
          (with_reducible refine (DC2.out _).mono ?_)
          rintro e W5 ⟨rfl, hb5⟩
          have hz5 := hb5.size
          obtain ⟨a0, a1, a2⟩ := HCA.out.keep hb5 (by omega)
          have HA5 := Lib.hid (HCA.out.keep hb5 (by omega))
          have HR5 := Lib.hid (HCR.out.keep hb5 (by omega))
          have hfa5 := frozen_keep HFA.out hb5 (by omega)
          have HFA5 := Lib.hid hfa5
          have HFR5 := Lib.hid (frozen_keep HFR.out hb5 (by omega))
          have HW5 := Lib.hid (HW.out.trans (hb5.mono HW.out.size))
          have hzw5 : w.heap.size + 2 ≤ W5.heap.size := by omega
          rw [← HS2.out] at a2
          clear hb5 hz5 hzw
          by_cases hlt : CJ < least
          · have g1 : (CJ : Int) < (least : Int) := by omega
            have g6 : ¬ 9223372036854775807 < S2.size + 1 := by omega
            have g7 : ¬ 9223372036854775807 < GZ.length + j + 1 := by omega
            have HX : Hid (S2 ++ (⟨#[48]⟩ : ByteArray) = dStr (GZ ++ List.replicate (j + 1) 0)) := by
              show _ = _
              rw [HS2.out, show (⟨#[48]⟩ : ByteArray) = dStr [0] from rfl, dStr_append, List.append_assoc, List.replicate_succ']
            have HZ5 := Lib.hid hzw5
            have HZ2 := Lib.hid hz2
            clear hzw5
            go_wp2
            go_roundw
            case rel =>
              refine ⟨j + 1, by omega, ?_, ?_, ?_, ?_, HW5.out.setCell (p := ⟨w.heap.size, 2, none⟩) (Nat.le_refl _) _, by have := HZ5.out; simpa [World.setCell] using this⟩
              · rw [← HX.out]
                exact ⟨cell_set_far _ _ _ _ _ _ (by decide) HA5.out.1, cell_set_far _ _ _ _ _ _ (by decide) HA5.out.2.1, cell_set_same _ _ _ _ HA5.out.2.2⟩
              · exact ⟨(World.cell?_setCell_other _ _ _ _ (fun e => by have := congrArg Addr.block e; simp at this)).trans HR5.out.1, (World.cell?_setCell_other _ _ _ _ (fun e => by have := congrArg Addr.block e; simp at this)).trans HR5.out.2.1, (World.cell?_setCell_other _ _ _ _ (fun e => by have := congrArg Addr.block e; simp at this)).trans HR5.out.2.2⟩
              · intro i; simpa using HFA5.out i
              · intro i; simpa using HFR5.out i
            case measure =>
              unfold cellSz
              rw [cell_set_same _ _ _ _ HA5.out.2.2, HCA.out.2.2]
              show 1000 - (S2 ++ (⟨#[48]⟩ : ByteArray)).size < 1000 - (dStr (GZ ++ List.replicate j 0)).size
              rw [HX.out, dStr_size, dStr_size]
              simp
              omega
          · have g1 : ¬ (CJ : Int) < (least : Int) := by omega
            have SX : Hid (S2 = dStr (GZ ++ List.replicate (least - C) 0)) := by
              show _ = _
              rw [HS2.out, show j = least - C by omega]
            go_wp2_with fail
            clear a0 a1 a2
            (with_reducible refine (DBD.out _ ?_).mono ?_)
            · exact SX.out
            rintro e W6 ⟨rfl, hb6⟩
            obtain ⟨r0, r1, r2⟩ := HR5.out.keep hb6 (by omega)
            have z0 := frozen_keep HFR5.out hb6 (by omega)
            obtain ⟨e0, e1, e2⟩ := res_cells r0 r1 r2 (.bool zn) (.string zi) (.string zf)
            have HB6 := Lib.hid (HW5.out.trans (hb6.mono HW5.out.size))
            clear hb6
            go_wp2
            exact bodyPost_ret (v := .tuple #[.agg #[.bool zn, .string zi, .string zf], .int .i64 c]) (by simp [results, Try.results28, go_sem, e0, e1, e2]) rfl ⟨rfl, res_below HB6.out (by omega) _ _ _⟩
end Go.Proofs.Ytcdmanhhddcmcaa

namespace Go.Proofs.Ytcdmanhhddcmcaa
open Go.RowKit
attribute [local go_sem ↓] Go.wp_at_zero Go.wp_at_succ

set_option maxHeartbeats 4000000 in
set_option maxRecDepth 100000 in
theorem rs_err (xn : Bool) (xi xf : List Nat) (mode most : Int) (least : Nat) (s : Int) (L NN QQ : ByteArray) (w : World) (H1 : (∀ wx : World, Calls Try.prog 60 #[(.agg #[.bool xn, .string (dStr xi), .string (dStr xf)]), .int .i64 mode] wx fun e w' => e = .returned (.int .i64 0) ∧ Below wx.heap.size wx w')) (H2 : (∀ wx : World, Calls Try.prog 61 #[(.agg #[.bool xn, .string (dStr xi), .string (dStr xf)])] wx fun e w' => e = .returned (.int .i64 s) ∧ Below wx.heap.size wx w')) (H3 : (∀ (wx : World) {X : ByteArray}, X = dStr xi ++ dStr xf → Calls Try.prog 62 #[.string X] wx fun r w' => r = .returned (.string L) ∧ wx = w')) (H4 : (∀ (wx : World) {nI : Int}, nI = s - most → Calls Try.prog 64 #[.int .i64 nI] wx fun r w' => r = .returned (.string NN) ∧ Below wx.heap.size wx w')) (H5 : (∀ (wx : World) {X Y : ByteArray}, X = dStr xi ++ dStr xf → Y = ⟨#[49]⟩ ++ NN → Calls Try.prog 63 #[.int .i64 mode, .bool xn, .string X, .string Y] wx fun r w' => r = .returned (.tuple #[.string QQ, .int .i64 31]) ∧ Below wx.heap.size wx w')) (h0 : 1 ≤ least) (h1 : least ≤ 40) (h2 : ¬ most < (least : Int)) (h3 : ¬ 40 < most) (hm : xi.length + xf.length ≤ 40) (hdi : Digs xi) (hdf : Digs xf) (hs : 0 < s - most) (b0 : 0 ≤ s) (b1 : s ≤ 1000) (b2 : 0 ≤ most) (qL : (L.toList == [48]) = false) (hNs : NN.size ≤ 1000) :
    Calls Try.prog 28 #[(.agg #[.bool xn, .string (dStr xi), .string (dStr xf)]), .int .i64 mode, .int .i64 (least : Int), .int .i64 most] w fun e w' => e = .returned (.tuple #[.agg #[.bool false, .string ⟨#[]⟩, .string ⟨#[]⟩], .int .i64 31]) ∧ Below w.heap.size w w' := by
  have D1 := Lib.hid H1
  have D2 := Lib.hid H2
  have D3 := Lib.hid H3
  have D4 := Lib.hid H4
  have D5 := Lib.hid H5
  clear H1 H2 H3 H4 H5
  have q0 : ((0 : Int) != 0) = false := by decide
  have q10 : decide ((least : Int) < 1) = false := decide_eq_false (by omega)
  have q11 : decide ((40 : Int) < (least : Int)) = false := decide_eq_false (by omega)
  have q12 : decide (most < (least : Int)) = false := decide_eq_false h2
  have q13 : decide (40 < most) = false := decide_eq_false h3
  have HDF := Lib.hid hdf
  have HDI := Lib.hid hdi
  have wzs : IntKind.i64.wrap (s - most) = s - most := IntWalk.i64_in _ (by omega)
  have qs : decide (0 < s - most) = true := decide_eq_true hs
  clear hdf hdi h2 h3
  have gov : ¬ 9223372036854775807 < (dStr xi).size + (dStr xf).size := by rw [dStr_size, dStr_size]; omega
  have gov1 : ¬ 9223372036854775807 < xi.length + xf.length := by omega
  have gov2 : ¬ 9223372036854775807 < 1 + NN.size := by omega
  have q31 : ((31 : Int) != 0) = true := by decide
  go_enter Try.func28, Try.ntmps28
  go_wp2_with fail
  obtain ⟨W0, hW0⟩ : ∃ W0, W0 = ((w.alloc (.cells #[.bool xn, .string (dStr xi), .string (dStr xf)] 23)).alloc (.cells #[.bool false, .string ⟨#[]⟩, .string ⟨#[]⟩] 23)) := ⟨_, rfl⟩
  obtain ⟨hB, hz, C0, C1, FL⟩ : Below w.heap.size w W0 ∧ w.heap.size + 2 ≤ W0.heap.size ∧ Cells3 W0 w.heap.size (.bool xn) (.string (dStr xi)) (.string (dStr xf)) ∧ Cells3 W0 (w.heap.size + 1) (.bool false) (.string ⟨#[]⟩) (.string ⟨#[]⟩) ∧ ∀ i, W0.frozen? ⟨(w.heap.size + 1), i, none⟩ = false := by rw [hW0]; exact ⟨below_two w _ _, two_boxes w _ _ _ _ _ _ _⟩
  have z0 : w.heap.size + 1 ≤ W0.heap.size := by omega
  have z1 : (w.heap.size + 1) + 1 ≤ W0.heap.size := by omega
  rw [← hW0]
  have HB := Lib.hid hB
  have F1 := Lib.hid FL
  have F0 := Lib.hid (show ∀ i, W0.frozen? ⟨w.heap.size, i, none⟩ = false by rw [hW0]; exact frozen_keep (one_box w (.bool xn) (.string (dStr xi)) (.string (dStr xf)) 23).2.2 ((Below.refl _ _).alloc (Nat.le_refl _) _) (by simp))
  clear hW0 hB hz FL
  (with_reducible refine (D1.out _).mono ?_)
  rintro e V1 ⟨rfl, hb⟩
  replace F0 := Lib.hid (frozen_keep F0.out hb (by omega))
  replace F1 := Lib.hid (frozen_keep F1.out hb (by omega))
  replace C0 := C0.keep hb (by omega)
  replace z0 : w.heap.size + 1 ≤ V1.heap.size := by have := hb.size; omega
  replace C1 := C1.keep hb (by omega)
  replace z1 : (w.heap.size + 1) + 1 ≤ V1.heap.size := by have := hb.size; omega
  replace HB := Lib.hid (HB.out.trans (hb.mono HB.out.size))
  clear hb
  have o00 := C0.1
  have o10 := C1.1
  have o01 := C0.2.1
  have o02 := C0.2.2
  have o11 := C1.2.1
  have o12 := C1.2.2
  go_wp2_with fail
  clear o00 o01 o02 o10 o11 o12
  (with_reducible refine (D2.out _).mono ?_)
  rintro e V2 ⟨rfl, hb⟩
  replace F0 := Lib.hid (frozen_keep F0.out hb (by omega))
  replace F1 := Lib.hid (frozen_keep F1.out hb (by omega))
  replace C0 := C0.keep hb (by omega)
  replace z0 : w.heap.size + 1 ≤ V2.heap.size := by have := hb.size; omega
  replace C1 := C1.keep hb (by omega)
  replace z1 : (w.heap.size + 1) + 1 ≤ V2.heap.size := by have := hb.size; omega
  replace HB := Lib.hid (HB.out.trans (hb.mono HB.out.size))
  clear hb
  have o00 := C0.1
  have o10 := C1.1
  have o01 := C0.2.1
  have o02 := C0.2.2
  have o11 := C1.2.1
  have o12 := C1.2.2
  go_wp2_with fail
  (with_reducible refine (D3.out _ ?_).mono ?_)
  · rfl
  rintro e V3 ⟨rfl, rfl⟩
  have C0h := Lib.hid C0
  have C1h := Lib.hid C1
  go_wp2_with fail
  go_region_held3 (fun w' => w'.cell? ⟨w.heap.size, 0, none⟩ = some (.bool xn) ∧ w'.cell? ⟨w.heap.size, 1, none⟩ = some (.string (dStr xi)) ∧ w'.cell? ⟨w.heap.size, 2, none⟩ = some (.string (dStr xf)))
    (first
      | exact ⟨o00, o01, o02⟩
      | (have t := C0h.out.keep hb4 (by omega); exact ⟨t.1, t.2.1, t.2.2⟩)
      | (have t := C0h.out.keep (undrew hbA) (by omega); exact ⟨t.1, t.2.1, t.2.2⟩)
      | go_keep)
    (first
      | (go_at_call 64; (with_reducible refine (D4.out _ ?_).mono ?_); (focus rfl); rintro e wA ⟨rfl, hbA⟩)
      | (go_at_call 63; (with_reducible refine (D5.out _ ?_ ?_).mono ?_); (focus rfl); (focus rfl); rintro e wB ⟨rfl, hbB⟩
         have hb4 : Below V2.heap.size V2 wB := (undrew hbA).trans (hbB.mono (undrew hbA).size)))
  clear o00 o01 o02 o10 o11 o12
  replace C0 := C0h.out.keep hb4 (by omega)
  replace C1 := C1h.out.keep hb4 (by omega)
  replace F0 := Lib.hid (frozen_keep F0.out hb4 (by omega))
  replace F1 := Lib.hid (frozen_keep F1.out hb4 (by omega))
  replace HB := Lib.hid (HB.out.trans (hb4.mono HB.out.size))
  have hzB : w.heap.size + 2 ≤ wB.heap.size := by have := hb4.size; omega
  clear hb4 hbA hbB C0h C1h z0 z1
  obtain ⟨r0, r1, r2⟩ := C1
  have zf := F1.out
  obtain ⟨e0, e1, e2⟩ := res_cells r0 r1 r2 (.bool false) (.string ⟨#[]⟩) (.string ⟨#[]⟩)
  go_wp2
  exact bodyPost_ret (v := .tuple #[.agg #[.bool false, .string ⟨#[]⟩, .string ⟨#[]⟩], .int .i64 31]) (by simp [results, Try.results28, go_sem, e0, e1, e2]) rfl ⟨rfl, res_below HB.out (by omega) _ _ _⟩
end Go.Proofs.Ytcdmanhhddcmcaa

namespace Go.Proofs.Ytcdmanhhddcmcaa
open Go.RowKit
attribute [local go_sem ↓] Go.wp_at_zero Go.wp_at_succ

set_option maxHeartbeats 4000000 in
set_option maxRecDepth 100000 in
theorem rs_roundA (xn : Bool) (xi xf : List Nat) (mode most : Int) (least : Nat) (s : Int) (L NN QQ : ByteArray) (N2 : ByteArray) (yn : Bool) (yi yf : List Nat) (zn : Bool) (zi zf : ByteArray) (c : Int) (w : World) (H1 : (∀ wx : World, Calls Try.prog 60 #[(.agg #[.bool xn, .string (dStr xi), .string (dStr xf)]), .int .i64 mode] wx fun e w' => e = .returned (.int .i64 0) ∧ Below wx.heap.size wx w')) (H2 : (∀ wx : World, Calls Try.prog 61 #[(.agg #[.bool xn, .string (dStr xi), .string (dStr xf)])] wx fun e w' => e = .returned (.int .i64 s) ∧ Below wx.heap.size wx w')) (H3 : (∀ (wx : World) {X : ByteArray}, X = dStr xi ++ dStr xf → Calls Try.prog 62 #[.string X] wx fun r w' => r = .returned (.string L) ∧ wx = w')) (H4 : (∀ (wx : World) {nI : Int}, nI = s - most → Calls Try.prog 64 #[.int .i64 nI] wx fun r w' => r = .returned (.string NN) ∧ Below wx.heap.size wx w')) (H5 : (∀ (wx : World) {X Y : ByteArray}, X = dStr xi ++ dStr xf → Y = ⟨#[49]⟩ ++ NN → Calls Try.prog 63 #[.int .i64 mode, .bool xn, .string X, .string Y] wx fun r w' => r = .returned (.tuple #[.string QQ, .int .i64 0]) ∧ Below wx.heap.size wx w')) (H6 : (∀ (wx : World) {nI : Int}, nI = s - most - (xf.length : Int) → Calls Try.prog 64 #[.int .i64 nI] wx fun r w' => r = .returned (.string N2) ∧ Below wx.heap.size wx w')) (H7 : (∀ (wx : World) {X : ByteArray}, X = QQ ++ N2 → Calls Try.prog 65 #[.bool xn, .string X, .int .i64 0] wx fun r w' => r = .returned (.agg #[.bool yn, .string (dStr yi), .string (dStr yf)]) ∧ Below wx.heap.size wx w')) (H9 : (∀ (wx : World) {F : ByteArray}, F = dStr (yf.take (cutS yi yf least yf.length) ++ List.replicate (least - cntL (yi ++ yf.take (cutS yi yf least yf.length))) 0) → Calls Try.prog 66 #[.agg #[.bool yn, .string (dStr yi), .string F]] wx fun r w' => r = .returned (.tuple #[.agg #[.bool zn, .string zi, .string zf], .int .i64 c]) ∧ Below wx.heap.size wx w')) (h0 : 1 ≤ least) (h1 : least ≤ 40) (h2 : ¬ most < (least : Int)) (h3 : ¬ 40 < most) (hm : xi.length + xf.length ≤ 40) (hdi : Digs xi) (hdf : Digs xf) (hs : 0 < s - most) (b0 : 0 ≤ s) (b1 : s ≤ 1000) (b2 : 0 ≤ most) (qL : (L.toList == [48]) = false) (hNs : NN.size ≤ 1000) (hdiy : Digs yi) (hdfy : Digs yf) (hmy : yi.length + yf.length ≤ 100) (hd : (xf.length : Int) ≤ s - most) (hQs : QQ.size ≤ 1000) (hN2 : N2.size ≤ 1000) :
    Calls Try.prog 28 #[(.agg #[.bool xn, .string (dStr xi), .string (dStr xf)]), .int .i64 mode, .int .i64 (least : Int), .int .i64 most] w fun e w' => e = .returned (.tuple #[(.agg #[.bool zn, .string zi, .string zf]), .int .i64 c]) ∧ Below w.heap.size w w' := by
  have D1 := Lib.hid H1
  have D2 := Lib.hid H2
  have D3 := Lib.hid H3
  have D4 := Lib.hid H4
  have D5 := Lib.hid H5
  have D6 := Lib.hid H6
  have D7 := Lib.hid H7
  have D9 := Lib.hid H9
  clear H1 H2 H3 H4 H5 H6 H7 H9
  have q0 : ((0 : Int) != 0) = false := by decide
  have q10 : decide ((least : Int) < 1) = false := decide_eq_false (by omega)
  have q11 : decide ((40 : Int) < (least : Int)) = false := decide_eq_false (by omega)
  have q12 : decide (most < (least : Int)) = false := decide_eq_false h2
  have q13 : decide (40 < most) = false := decide_eq_false h3
  have HDF := Lib.hid hdf
  have HDI := Lib.hid hdi
  have wzs : IntKind.i64.wrap (s - most) = s - most := IntWalk.i64_in _ (by omega)
  have qs : decide (0 < s - most) = true := decide_eq_true hs
  clear hdf hdi h2 h3
  have gov : ¬ 9223372036854775807 < (dStr xi).size + (dStr xf).size := by rw [dStr_size, dStr_size]; omega
  have gov1 : ¬ 9223372036854775807 < xi.length + xf.length := by omega
  have gov2 : ¬ 9223372036854775807 < 1 + NN.size := by omega
  have HDFy := Lib.hid hdfy
  have HDIy := Lib.hid hdiy
  clear hdfy hdiy
  have hdz : ((dStr xf).size : Int) ≤ s - most := by rw [dStr_size]; exact hd
  have wz6 : IntKind.i64.wrap (s - most - ((dStr xf).size : Int)) = s - most - ((dStr xf).size : Int) := by rw [dStr_size]; exact IntWalk.i64_in _ (by omega)
  have qd : decide ((xf.length : Int) ≤ s - most) = true := decide_eq_true hd
  have wz5 : IntKind.i64.wrap (s - most - (xf.length : Int)) = s - most - (xf.length : Int) := IntWalk.i64_in _ (by omega)
  have gov3 : ¬ 9223372036854775807 < QQ.size + N2.size := by omega
  go_enter Try.func28, Try.ntmps28
  go_wp2_with fail
  obtain ⟨W0, hW0⟩ : ∃ W0, W0 = ((w.alloc (.cells #[.bool xn, .string (dStr xi), .string (dStr xf)] 23)).alloc (.cells #[.bool false, .string ⟨#[]⟩, .string ⟨#[]⟩] 23)) := ⟨_, rfl⟩
  obtain ⟨hB, hz, C0, C1, FL⟩ : Below w.heap.size w W0 ∧ w.heap.size + 2 ≤ W0.heap.size ∧ Cells3 W0 w.heap.size (.bool xn) (.string (dStr xi)) (.string (dStr xf)) ∧ Cells3 W0 (w.heap.size + 1) (.bool false) (.string ⟨#[]⟩) (.string ⟨#[]⟩) ∧ ∀ i, W0.frozen? ⟨(w.heap.size + 1), i, none⟩ = false := by rw [hW0]; exact ⟨below_two w _ _, two_boxes w _ _ _ _ _ _ _⟩
  have z0 : w.heap.size + 1 ≤ W0.heap.size := by omega
  have z1 : (w.heap.size + 1) + 1 ≤ W0.heap.size := by omega
  rw [← hW0]
  have HB := Lib.hid hB
  have F1 := Lib.hid FL
  have F0 := Lib.hid (show ∀ i, W0.frozen? ⟨w.heap.size, i, none⟩ = false by rw [hW0]; exact frozen_keep (one_box w (.bool xn) (.string (dStr xi)) (.string (dStr xf)) 23).2.2 ((Below.refl _ _).alloc (Nat.le_refl _) _) (by simp))
  clear hW0 hB hz FL
  (with_reducible refine (D1.out _).mono ?_)
  rintro e V1 ⟨rfl, hb⟩
  replace F0 := Lib.hid (frozen_keep F0.out hb (by omega))
  replace F1 := Lib.hid (frozen_keep F1.out hb (by omega))
  replace C0 := C0.keep hb (by omega)
  replace z0 : w.heap.size + 1 ≤ V1.heap.size := by have := hb.size; omega
  replace C1 := C1.keep hb (by omega)
  replace z1 : (w.heap.size + 1) + 1 ≤ V1.heap.size := by have := hb.size; omega
  replace HB := Lib.hid (HB.out.trans (hb.mono HB.out.size))
  clear hb
  have o00 := C0.1
  have o10 := C1.1
  have o01 := C0.2.1
  have o02 := C0.2.2
  have o11 := C1.2.1
  have o12 := C1.2.2
  go_wp2_with fail
  clear o00 o01 o02 o10 o11 o12
  (with_reducible refine (D2.out _).mono ?_)
  rintro e V2 ⟨rfl, hb⟩
  replace F0 := Lib.hid (frozen_keep F0.out hb (by omega))
  replace F1 := Lib.hid (frozen_keep F1.out hb (by omega))
  replace C0 := C0.keep hb (by omega)
  replace z0 : w.heap.size + 1 ≤ V2.heap.size := by have := hb.size; omega
  replace C1 := C1.keep hb (by omega)
  replace z1 : (w.heap.size + 1) + 1 ≤ V2.heap.size := by have := hb.size; omega
  replace HB := Lib.hid (HB.out.trans (hb.mono HB.out.size))
  clear hb
  have o00 := C0.1
  have o10 := C1.1
  have o01 := C0.2.1
  have o02 := C0.2.2
  have o11 := C1.2.1
  have o12 := C1.2.2
  go_wp2_with fail
  (with_reducible refine (D3.out _ ?_).mono ?_)
  · rfl
  rintro e V3 ⟨rfl, rfl⟩
  have C0h := Lib.hid C0
  have C1h := Lib.hid C1
  go_wp2_with fail
  go_region_held3 (fun w' => w'.cell? ⟨w.heap.size, 0, none⟩ = some (.bool xn) ∧ w'.cell? ⟨w.heap.size, 1, none⟩ = some (.string (dStr xi)) ∧ w'.cell? ⟨w.heap.size, 2, none⟩ = some (.string (dStr xf)))
    (first
      | exact ⟨o00, o01, o02⟩
      | (have t := C0h.out.keep hb4 (by omega); exact ⟨t.1, t.2.1, t.2.2⟩)
      | (have t := C0h.out.keep (undrew hbA) (by omega); exact ⟨t.1, t.2.1, t.2.2⟩)
      | go_keep)
    (first
      | (go_at_call 64; (with_reducible refine (D4.out _ ?_).mono ?_); (focus rfl); rintro e wA ⟨rfl, hbA⟩)
      | (go_at_call 63; (with_reducible refine (D5.out _ ?_ ?_).mono ?_); (focus rfl); (focus rfl); rintro e wB ⟨rfl, hbB⟩
         have hb4 : Below V2.heap.size V2 wB := (undrew hbA).trans (hbB.mono (undrew hbA).size)))
  clear o00 o01 o02 o10 o11 o12
  replace C0 := C0h.out.keep hb4 (by omega)
  replace C1 := C1h.out.keep hb4 (by omega)
  replace F0 := Lib.hid (frozen_keep F0.out hb4 (by omega))
  replace F1 := Lib.hid (frozen_keep F1.out hb4 (by omega))
  replace HB := Lib.hid (HB.out.trans (hb4.mono HB.out.size))
  have hzB : w.heap.size + 2 ≤ wB.heap.size := by have := hb4.size; omega
  clear hb4 hbA hbB C0h C1h z0 z1
  obtain ⟨p0, p1, p2⟩ := C0
  have C0h := Lib.hid (show Cells3 wB w.heap.size _ _ _ from ⟨p0, p1, p2⟩)
  have f0 := F0.out
  go_wp2_with fail
  go_region_with (first | (go_at_call 64; (with_reducible refine (D6.out _ ?_).mono ?_); (focus first | rfl | (rw [dStr_size])); rintro e wN ⟨rfl, hbN⟩; have hN : Below wB.heap.size wB wN := undrew hbN; obtain ⟨n0, n1, n2⟩ := C0h.out.keep hN (by omega)) | (go_at_call 65; (with_reducible refine (D7.out _ ?_).mono ?_); (focus rfl); rintro e wM ⟨rfl, hbM⟩; have hM : Below wB.heap.size wB wM := hN.trans (hbM.mono hN.size); obtain ⟨m0, m1, m2⟩ := C0h.out.keep hM (by omega); have fM := frozen_keep F0.out hM (by omega)))
  all_goals
    clear p0 p1 p2 f0
    obtain ⟨G, hG⟩ : ∃ G, G = ((wM.setCell ⟨w.heap.size, 0, none⟩ (.bool yn)).setCell ⟨w.heap.size, 1, none⟩ (.string (dStr yi))).setCell ⟨w.heap.size, 2, none⟩ (.string (dStr yf)) := ⟨_, rfl⟩
    have HBG : Below w.heap.size w G := by
      rw [hG]
      exact (((HB.out.trans (hM.mono HB.out.size)).setCell (p := ⟨w.heap.size, 0, none⟩) (Nat.le_refl _) _).setCell (p := ⟨w.heap.size, 1, none⟩) (Nat.le_refl _) _).setCell (p := ⟨w.heap.size, 2, none⟩) (Nat.le_refl _) _
    have hzG : w.heap.size + 2 ≤ G.heap.size := by
      have h8 := hM.size
      have h9 : w.heap.size + 2 ≤ wM.heap.size := by omega
      rw [hG]; simpa [World.setCell] using h9
    have CG : Cells3 G w.heap.size (.bool yn) (.string (dStr yi)) (.string (dStr yf)) := by
      rw [hG]
      exact ⟨cell_set_far _ _ _ _ _ _ (by decide) (cell_set_far _ _ _ _ _ _ (by decide) (cell_set_same _ _ _ _ m0)), cell_set_far _ _ _ _ _ _ (by decide) (cell_set_same _ _ _ _ (cell_set_far _ _ _ _ _ _ (by decide) m1)), cell_set_same _ _ _ _ (cell_set_far _ _ _ _ _ _ (by decide) (cell_set_far _ _ _ _ _ _ (by decide) m2))⟩
    have tM := C1.keep hM (by omega)
    have oG : ∀ j, G.cell? ⟨w.heap.size + 1, j, none⟩ = wM.cell? ⟨w.heap.size + 1, j, none⟩ := by
      intro j
      rw [hG]
      exact ((World.cell?_setCell_other _ _ _ _ (fun e => by have := congrArg Addr.block e; simp at this)).trans (World.cell?_setCell_other _ _ _ _ (fun e => by have := congrArg Addr.block e; simp at this))).trans (World.cell?_setCell_other _ _ _ _ (fun e => by have := congrArg Addr.block e; simp at this))
    have DG : Cells3 G (w.heap.size + 1) (.bool false) (.string ⟨#[]⟩) (.string ⟨#[]⟩) := ⟨(oG 0).trans tM.1, (oG 1).trans tM.2.1, (oG 2).trans tM.2.2⟩
    have rM := frozen_keep F1.out hM (by omega)
    have FG : ∀ i, G.frozen? ⟨w.heap.size, i, none⟩ = false := by rw [hG]; intro i; simpa using fM i
    have RG : ∀ i, G.frozen? ⟨w.heap.size + 1, i, none⟩ = false := by rw [hG]; intro i; simpa using rM i
    rw [← hG]
    clear hG oG tM rM hM hbM m0 m1 m2 fM C0h C1 HB hzB n0 n1 n2 hN hbN
    replace F0 := Lib.hid FG
    replace F1 := Lib.hid RG
    have HB := Lib.hid HBG
    have C0 := CG
    have C1 := DG
    have o00 := C0.1
    have o01 := C0.2.1
    have o02 := C0.2.2
    have o10 := C1.1
    have o11 := C1.2.1
    have o12 := C1.2.2
    clear FG RG HBG CG DG
    go_wp2_with fail
    obtain ⟨GZ, hF0⟩ : ∃ GZ, GZ = yf.take (cutS yi yf least yf.length) := ⟨_, rfl⟩
    obtain ⟨C, hC⟩ : ∃ C, C = cntL (yi ++ GZ) := ⟨_, rfl⟩
    have HF0 := Lib.hid hF0
    have HC := Lib.hid hC.symm
    have HF0d : Hid (Digs GZ) := by show Digs _; rw [hF0]; exact HDFy.out.take _
    have HF0l : Hid (GZ.length ≤ 100) := by show _ ≤ _; rw [hF0, List.length_take]; omega
    have DBD : Hid (∀ (wx : World) {F : ByteArray}, F = dStr (GZ ++ List.replicate (least - C) 0) → Calls Try.prog 66 #[.agg #[.bool yn, .string (dStr yi), .string F]] wx fun r w' => r = .returned (.tuple #[.agg #[.bool zn, .string zi, .string zf], .int .i64 c]) ∧ Below wx.heap.size wx w') := by
      show ∀ wx : World, _
      rw [hC, hF0]
      exact D9.out
    clear hF0 hC
    go_loopw [] (fun wr => ∃ k : Nat, k ≤ yf.length ∧ cutS yi yf least k = cutS yi yf least yf.length ∧ Cells3 wr w.heap.size (.bool yn) (.string (dStr yi)) (.string (dStr (yf.take k))) ∧ Cells3 wr (w.heap.size + 1) (.bool false) (.string ⟨#[]⟩) (.string ⟨#[]⟩) ∧ (∀ i, wr.frozen? ⟨w.heap.size, i, none⟩ = false) ∧ (∀ i, wr.frozen? ⟨w.heap.size + 1, i, none⟩ = false) ∧ Below w.heap.size w wr ∧ w.heap.size + 2 ≤ wr.heap.size) (fun wr => cellSz wr ⟨w.heap.size, 2, none⟩)
    case atStart => exact ⟨yf.length, Nat.le_refl _, rfl, by rw [List.take_length]; exact C0, C1, F0.out, F1.out, HB.out, by omega⟩
    case round =>
      obtain ⟨k, hk, hE, hca, hcr, hfa, hfr, hbw, hzw⟩ := hrel
      have HE := Lib.hid hE
      have HCA := Lib.hid hca
      have HCR := Lib.hid hcr
      have HFA := Lib.hid hfa
      have HFR := Lib.hid hfr
      have HW := Lib.hid hbw
      obtain ⟨a0, a1, a2⟩ := hca
      clear hE hcr hfr hbw hfa
      have DCk := Lib.hid (fun wx => count_any yn yi (yf.take k) wx HDIy.out (HDFy.out.take k) (by rw [List.length_take]; omega))
      obtain ⟨S, hS⟩ : ∃ S, S = dStr (yf.take k) := ⟨_, rfl⟩
      have hz : S.size = k := by rw [hS, dStr_size, List.length_take]; omega
      rw [← hS] at a2 DCk
      have HS := Lib.hid hS
      clear hS
      obtain ⟨K, hK⟩ : ∃ K, K = cntL (yi ++ yf.take k) := ⟨_, rfl⟩
      have HK := Lib.hid hK
      have hKb : K ≤ 1000 := by
        rw [hK]
        exact cnt_le (n := 100) (HDIy.out.append (HDFy.out.take k)) (by rw [List.length_append, List.length_take]; omega) (by omega)
      rw [← hK] at DCk
      clear hK
      by_cases hgo : least < K ∧ 0 < k ∧ yf.getD (k - 1) 0 = 0
      · obtain ⟨m, rfl⟩ : ∃ m, k = m + 1 := ⟨k - 1, by omega⟩
        obtain ⟨g1, -, h0⟩ := hgo
        rw [Nat.add_sub_cancel] at h0
        have hms : m < S.size := by omega
        have hget : (S[m]'hms).toNat = 48 + (yf.take (m + 1)).getD m 0 := by
          have e := HS.out
          subst e
          exact dStr_get _ (HDFy.out.take _) m hms
        have hg2 : (yf.take (m + 1)).getD m 0 = yf.getD m 0 := by
          rw [List.getD_eq_getElem?_getD, List.getD_eq_getElem?_getD, List.getElem?_take, if_pos (by omega)]
        rw [hg2, h0] at hget
        have q48 : (((S[m]'hms).toNat : Int) == 48) = true := by rw [hget]; rfl
        have g2 : (least : Int) < (K : Int) := by omega
        have ST := Lib.hid (show cutS yi yf least (m + 1) = cutS yi yf least m from if_pos ⟨by rw [← HK.out]; exact g1, h0⟩)
        have HX := Lib.hid (show S.extract 0 m = dStr (yf.take m) by rw [HS.out, dStr_ext, List.drop_zero, List.take_take, Nat.min_eq_left (by omega)])
        have HZ := Lib.hid hz
        have HZW := Lib.hid hzw
        clear hget h0 hg2
        go_wp2_with fail
        clear a0 a1 a2
        (with_reducible refine (DCk.out _).mono ?_)
        rintro e W2 ⟨rfl, hb2⟩
        have hz2 := hb2.size
        obtain ⟨a0, a1, a2⟩ := HCA.out.keep hb2 (by omega)
        have HA2 := Lib.hid (HCA.out.keep hb2 (by omega))
        have HR2 := Lib.hid (HCR.out.keep hb2 (by omega))
        have hfa2 := frozen_keep HFA.out hb2 (by omega)
        have HFA2 := Lib.hid hfa2
        have HFR2 := Lib.hid (frozen_keep HFR.out hb2 (by omega))
        have HW2 := Lib.hid (HW.out.trans (hb2.mono HW.out.size))
        have HZ2 : Hid (w.heap.size + 2 ≤ W2.heap.size) := by show _ ≤ _; omega
        rw [← HS.out] at a2
        clear hb2 hz2 hzw
        go_wp2
        go_roundw
        case rel =>
          refine ⟨m, by omega, by rw [← HE.out, ST.out], ?_, ?_, ?_, ?_, HW2.out.setCell (p := ⟨w.heap.size, 2, none⟩) (Nat.le_refl _) _, by have := HZ2.out; simpa [World.setCell] using this⟩
          · rw [← HX.out]
            exact ⟨cell_set_far _ _ _ _ _ _ (by decide) HA2.out.1, cell_set_far _ _ _ _ _ _ (by decide) HA2.out.2.1, cell_set_same _ _ _ _ HA2.out.2.2⟩
          · exact ⟨(World.cell?_setCell_other _ _ _ _ (fun e => by have := congrArg Addr.block e; simp at this)).trans HR2.out.1, (World.cell?_setCell_other _ _ _ _ (fun e => by have := congrArg Addr.block e; simp at this)).trans HR2.out.2.1, (World.cell?_setCell_other _ _ _ _ (fun e => by have := congrArg Addr.block e; simp at this)).trans HR2.out.2.2⟩
          · intro i; simpa using HFA2.out i
          · intro i; simpa using HFR2.out i
        case measure =>
          unfold cellSz
          rw [cell_set_same _ _ _ _ HA2.out.2.2, HCA.out.2.2]
          simp [dStr_size]
          omega
      · have KE : Hid (k = cutS yi yf least yf.length) := by
          show _ = _
          rw [← HE.out]
          cases k with
          | zero => rfl
          | succ m => exact (if_neg (fun h => hgo ⟨by rw [HK.out]; exact h.1, by omega, by rw [Nat.add_sub_cancel]; exact h.2⟩)).symm
        go_wp2_with fail
        clear a0 a1 a2
        (with_reducible refine (DCk.out _).mono ?_)
        rintro e W2 ⟨rfl, hb2⟩
        have hz2 := hb2.size
        obtain ⟨a0, a1, a2⟩ := HCA.out.keep hb2 (by omega)
        have HA2 := Lib.hid (HCA.out.keep hb2 (by omega))
        have HR2 := Lib.hid (HCR.out.keep hb2 (by omega))
        have HFA2 := Lib.hid (frozen_keep HFA.out hb2 (by omega))
        have HFR2 := Lib.hid (frozen_keep HFR.out hb2 (by omega))
        have HW2 := Lib.hid (HW.out.trans (hb2.mono HW.out.size))
        have hzw2 : w.heap.size + 2 ≤ W2.heap.size := by omega
        rw [← HS.out] at a2
        clear hb2 hz2 hzw
        by_cases hk1 : least < K
        · have g1 : (least : Int) < (K : Int) := by omega
          by_cases hk2 : 0 < k
          · obtain ⟨m, rfl⟩ : ∃ m, k = m + 1 := ⟨k - 1, by omega⟩
            have hms : m < S.size := by omega
            have hget : (S[m]'hms).toNat = 48 + (yf.take (m + 1)).getD m 0 := by
              have e := HS.out
              subst e
              exact dStr_get _ (HDFy.out.take _) m hms
            have hg2 : (yf.take (m + 1)).getD m 0 = yf.getD m 0 := by
              rw [List.getD_eq_getElem?_getD, List.getD_eq_getElem?_getD, List.getElem?_take, if_pos (by omega)]
            have hne : yf.getD m 0 ≠ 0 := fun h => hgo ⟨hk1, hk2, by rw [Nat.add_sub_cancel]; exact h⟩
            have q48 : (((S[m]'hms).toNat : Int) == 48) = false := by rw [hget, hg2, beq_eq_false_iff_ne]; omega
            clear hgo hget hg2 hne
            go_wp2_with fail
            have HA3 : Hid (Cells3 W2 w.heap.size (.bool yn) (.string (dStr yi)) (.string (dStr GZ))) := by
              show Cells3 _ _ _ _ _
              rw [HF0.out, ← KE.out]
              exact HA2.out
            clear a0 a1 a2
            go_loopw [] (fun wr => ∃ j : Nat, j ≤ least - C ∧ Cells3 wr w.heap.size (.bool yn) (.string (dStr yi)) (.string (dStr (GZ ++ List.replicate j 0))) ∧ Cells3 wr (w.heap.size + 1) (.bool false) (.string ⟨#[]⟩) (.string ⟨#[]⟩) ∧ (∀ i, wr.frozen? ⟨w.heap.size, i, none⟩ = false) ∧ (∀ i, wr.frozen? ⟨w.heap.size + 1, i, none⟩ = false) ∧ Below w.heap.size w wr ∧ w.heap.size + 2 ≤ wr.heap.size) (fun wr => 1000 - cellSz wr ⟨w.heap.size, 2, none⟩)
            case atStart => exact ⟨0, by omega, by rw [List.replicate_zero, List.append_nil]; exact HA3.out, HR2.out, HFA2.out, HFR2.out, HW2.out, hzw2⟩
            case round =>
              obtain ⟨j, hj, hca, hcr, hfa, hfr, hbw, hzw⟩ := hrel
              have HCA := Lib.hid hca
              have HCR := Lib.hid hcr
              have HFA := Lib.hid hfa
              have HFR := Lib.hid hfr
              have HW := Lib.hid hbw
              obtain ⟨a0, a1, a2⟩ := hca
              clear hcr hfr hbw hfa
              have hF0l := HF0l.out
              have DC2 := Lib.hid (fun wx => count_any yn yi (GZ ++ List.replicate j 0) wx HDIy.out (HF0d.out.append (.zeros j)) (by rw [List.length_append, List.length_replicate]; omega))
              rw [← List.append_assoc, cnt_more, HC.out] at DC2
              obtain ⟨S2, hS2⟩ : ∃ S2, S2 = dStr (GZ ++ List.replicate j 0) := ⟨_, rfl⟩
              have hz2 : S2.size = GZ.length + j := by rw [hS2, dStr_size, List.length_append, List.length_replicate]
              rw [← hS2] at a2 DC2
              have HS2 := Lib.hid hS2
              obtain ⟨CJ, hCJ⟩ : ∃ CJ, CJ = C + j := ⟨_, rfl⟩
              rw [← hCJ] at DC2
              have HCJ := Lib.hid hCJ
              clear hS2
              go_wp2_with fail
              clear a0 a1 a2
              (with_reducible refine (DC2.out _).mono ?_)
              rintro e W5 ⟨rfl, hb5⟩
              have hz5 := hb5.size
              obtain ⟨a0, a1, a2⟩ := HCA.out.keep hb5 (by omega)
              have HA5 := Lib.hid (HCA.out.keep hb5 (by omega))
              have HR5 := Lib.hid (HCR.out.keep hb5 (by omega))
              have hfa5 := frozen_keep HFA.out hb5 (by omega)
              have HFA5 := Lib.hid hfa5
              have HFR5 := Lib.hid (frozen_keep HFR.out hb5 (by omega))
              have HW5 := Lib.hid (HW.out.trans (hb5.mono HW.out.size))
              have hzw5 : w.heap.size + 2 ≤ W5.heap.size := by omega
              rw [← HS2.out] at a2
              clear hb5 hz5 hzw
              by_cases hlt : CJ < least
              · have g1 : (CJ : Int) < (least : Int) := by omega
                have g6 : ¬ 9223372036854775807 < S2.size + 1 := by omega
                have g7 : ¬ 9223372036854775807 < GZ.length + j + 1 := by omega
                have HX : Hid (S2 ++ (⟨#[48]⟩ : ByteArray) = dStr (GZ ++ List.replicate (j + 1) 0)) := by
                  show _ = _
                  rw [HS2.out, show (⟨#[48]⟩ : ByteArray) = dStr [0] from rfl, dStr_append, List.append_assoc, List.replicate_succ']
                have HZ5 := Lib.hid hzw5
                have HZ2 := Lib.hid hz2
                clear hzw5
                go_wp2
                go_roundw
                case rel =>
                  refine ⟨j + 1, by omega, ?_, ?_, ?_, ?_, HW5.out.setCell (p := ⟨w.heap.size, 2, none⟩) (Nat.le_refl _) _, by have := HZ5.out; simpa [World.setCell] using this⟩
                  · rw [← HX.out]
                    exact ⟨cell_set_far _ _ _ _ _ _ (by decide) HA5.out.1, cell_set_far _ _ _ _ _ _ (by decide) HA5.out.2.1, cell_set_same _ _ _ _ HA5.out.2.2⟩
                  · exact ⟨(World.cell?_setCell_other _ _ _ _ (fun e => by have := congrArg Addr.block e; simp at this)).trans HR5.out.1, (World.cell?_setCell_other _ _ _ _ (fun e => by have := congrArg Addr.block e; simp at this)).trans HR5.out.2.1, (World.cell?_setCell_other _ _ _ _ (fun e => by have := congrArg Addr.block e; simp at this)).trans HR5.out.2.2⟩
                  · intro i; simpa using HFA5.out i
                  · intro i; simpa using HFR5.out i
                case measure =>
                  unfold cellSz
                  rw [cell_set_same _ _ _ _ HA5.out.2.2, HCA.out.2.2]
                  show 1000 - (S2 ++ (⟨#[48]⟩ : ByteArray)).size < 1000 - (dStr (GZ ++ List.replicate j 0)).size
                  rw [HX.out, dStr_size, dStr_size]
                  simp
                  omega
              · have g1 : ¬ (CJ : Int) < (least : Int) := by omega
                have SX : Hid (S2 = dStr (GZ ++ List.replicate (least - C) 0)) := by
                  show _ = _
                  rw [HS2.out, show j = least - C by omega]
                go_wp2_with fail
                clear a0 a1 a2
                (with_reducible refine (DBD.out _ ?_).mono ?_)
                · exact SX.out
                rintro e W6 ⟨rfl, hb6⟩
                obtain ⟨r0, r1, r2⟩ := HR5.out.keep hb6 (by omega)
                have z0 := frozen_keep HFR5.out hb6 (by omega)
                obtain ⟨e0, e1, e2⟩ := res_cells r0 r1 r2 (.bool zn) (.string zi) (.string zf)
                have HB6 := Lib.hid (HW5.out.trans (hb6.mono HW5.out.size))
                clear hb6
                go_wp2
                exact bodyPost_ret (v := .tuple #[.agg #[.bool zn, .string zi, .string zf], .int .i64 c]) (by simp [results, Try.results28, go_sem, e0, e1, e2]) rfl ⟨rfl, res_below HB6.out (by omega) _ _ _⟩
          · obtain rfl : k = 0 := by omega
            go_wp2_with fail
            have HA3 : Hid (Cells3 W2 w.heap.size (.bool yn) (.string (dStr yi)) (.string (dStr GZ))) := by
              show Cells3 _ _ _ _ _
              rw [HF0.out, ← KE.out]
              exact HA2.out
            clear a0 a1 a2
            go_loopw [] (fun wr => ∃ j : Nat, j ≤ least - C ∧ Cells3 wr w.heap.size (.bool yn) (.string (dStr yi)) (.string (dStr (GZ ++ List.replicate j 0))) ∧ Cells3 wr (w.heap.size + 1) (.bool false) (.string ⟨#[]⟩) (.string ⟨#[]⟩) ∧ (∀ i, wr.frozen? ⟨w.heap.size, i, none⟩ = false) ∧ (∀ i, wr.frozen? ⟨w.heap.size + 1, i, none⟩ = false) ∧ Below w.heap.size w wr ∧ w.heap.size + 2 ≤ wr.heap.size) (fun wr => 1000 - cellSz wr ⟨w.heap.size, 2, none⟩)
            case atStart => exact ⟨0, by omega, by rw [List.replicate_zero, List.append_nil]; exact HA3.out, HR2.out, HFA2.out, HFR2.out, HW2.out, hzw2⟩
            case round =>
              obtain ⟨j, hj, hca, hcr, hfa, hfr, hbw, hzw⟩ := hrel
              have HCA := Lib.hid hca
              have HCR := Lib.hid hcr
              have HFA := Lib.hid hfa
              have HFR := Lib.hid hfr
              have HW := Lib.hid hbw
              obtain ⟨a0, a1, a2⟩ := hca
              clear hcr hfr hbw hfa
              have hF0l := HF0l.out
              have DC2 := Lib.hid (fun wx => count_any yn yi (GZ ++ List.replicate j 0) wx HDIy.out (HF0d.out.append (.zeros j)) (by rw [List.length_append, List.length_replicate]; omega))
              rw [← List.append_assoc, cnt_more, HC.out] at DC2
              obtain ⟨S2, hS2⟩ : ∃ S2, S2 = dStr (GZ ++ List.replicate j 0) := ⟨_, rfl⟩
              have hz2 : S2.size = GZ.length + j := by rw [hS2, dStr_size, List.length_append, List.length_replicate]
              rw [← hS2] at a2 DC2
              have HS2 := Lib.hid hS2
              obtain ⟨CJ, hCJ⟩ : ∃ CJ, CJ = C + j := ⟨_, rfl⟩
              rw [← hCJ] at DC2
              have HCJ := Lib.hid hCJ
              clear hS2
              go_wp2_with fail
              clear a0 a1 a2
              (with_reducible refine (DC2.out _).mono ?_)
              rintro e W5 ⟨rfl, hb5⟩
              have hz5 := hb5.size
              obtain ⟨a0, a1, a2⟩ := HCA.out.keep hb5 (by omega)
              have HA5 := Lib.hid (HCA.out.keep hb5 (by omega))
              have HR5 := Lib.hid (HCR.out.keep hb5 (by omega))
              have hfa5 := frozen_keep HFA.out hb5 (by omega)
              have HFA5 := Lib.hid hfa5
              have HFR5 := Lib.hid (frozen_keep HFR.out hb5 (by omega))
              have HW5 := Lib.hid (HW.out.trans (hb5.mono HW.out.size))
              have hzw5 : w.heap.size + 2 ≤ W5.heap.size := by omega
              rw [← HS2.out] at a2
              clear hb5 hz5 hzw
              by_cases hlt : CJ < least
              · have g1 : (CJ : Int) < (least : Int) := by omega
                have g6 : ¬ 9223372036854775807 < S2.size + 1 := by omega
                have g7 : ¬ 9223372036854775807 < GZ.length + j + 1 := by omega
                have HX : Hid (S2 ++ (⟨#[48]⟩ : ByteArray) = dStr (GZ ++ List.replicate (j + 1) 0)) := by
                  show _ = _
                  rw [HS2.out, show (⟨#[48]⟩ : ByteArray) = dStr [0] from rfl, dStr_append, List.append_assoc, List.replicate_succ']
                have HZ5 := Lib.hid hzw5
                have HZ2 := Lib.hid hz2
                clear hzw5
                go_wp2
                go_roundw
                case rel =>
                  refine ⟨j + 1, by omega, ?_, ?_, ?_, ?_, HW5.out.setCell (p := ⟨w.heap.size, 2, none⟩) (Nat.le_refl _) _, by have := HZ5.out; simpa [World.setCell] using this⟩
                  · rw [← HX.out]
                    exact ⟨cell_set_far _ _ _ _ _ _ (by decide) HA5.out.1, cell_set_far _ _ _ _ _ _ (by decide) HA5.out.2.1, cell_set_same _ _ _ _ HA5.out.2.2⟩
                  · exact ⟨(World.cell?_setCell_other _ _ _ _ (fun e => by have := congrArg Addr.block e; simp at this)).trans HR5.out.1, (World.cell?_setCell_other _ _ _ _ (fun e => by have := congrArg Addr.block e; simp at this)).trans HR5.out.2.1, (World.cell?_setCell_other _ _ _ _ (fun e => by have := congrArg Addr.block e; simp at this)).trans HR5.out.2.2⟩
                  · intro i; simpa using HFA5.out i
                  · intro i; simpa using HFR5.out i
                case measure =>
                  unfold cellSz
                  rw [cell_set_same _ _ _ _ HA5.out.2.2, HCA.out.2.2]
                  show 1000 - (S2 ++ (⟨#[48]⟩ : ByteArray)).size < 1000 - (dStr (GZ ++ List.replicate j 0)).size
                  rw [HX.out, dStr_size, dStr_size]
                  simp
                  omega
              · have g1 : ¬ (CJ : Int) < (least : Int) := by omega
                have SX : Hid (S2 = dStr (GZ ++ List.replicate (least - C) 0)) := by
                  show _ = _
                  rw [HS2.out, show j = least - C by omega]
                go_wp2_with fail
                clear a0 a1 a2
                (with_reducible refine (DBD.out _ ?_).mono ?_)
                · exact SX.out
                rintro e W6 ⟨rfl, hb6⟩
                obtain ⟨r0, r1, r2⟩ := HR5.out.keep hb6 (by omega)
                have z0 := frozen_keep HFR5.out hb6 (by omega)
                obtain ⟨e0, e1, e2⟩ := res_cells r0 r1 r2 (.bool zn) (.string zi) (.string zf)
                have HB6 := Lib.hid (HW5.out.trans (hb6.mono HW5.out.size))
                clear hb6
                go_wp2
                exact bodyPost_ret (v := .tuple #[.agg #[.bool zn, .string zi, .string zf], .int .i64 c]) (by simp [results, Try.results28, go_sem, e0, e1, e2]) rfl ⟨rfl, res_below HB6.out (by omega) _ _ _⟩
        · have g1 : ¬ (least : Int) < (K : Int) := by omega
          go_wp2_with fail
          have HA3 : Hid (Cells3 W2 w.heap.size (.bool yn) (.string (dStr yi)) (.string (dStr GZ))) := by
            show Cells3 _ _ _ _ _
            rw [HF0.out, ← KE.out]
            exact HA2.out
          clear a0 a1 a2
          go_loopw [] (fun wr => ∃ j : Nat, j ≤ least - C ∧ Cells3 wr w.heap.size (.bool yn) (.string (dStr yi)) (.string (dStr (GZ ++ List.replicate j 0))) ∧ Cells3 wr (w.heap.size + 1) (.bool false) (.string ⟨#[]⟩) (.string ⟨#[]⟩) ∧ (∀ i, wr.frozen? ⟨w.heap.size, i, none⟩ = false) ∧ (∀ i, wr.frozen? ⟨w.heap.size + 1, i, none⟩ = false) ∧ Below w.heap.size w wr ∧ w.heap.size + 2 ≤ wr.heap.size) (fun wr => 1000 - cellSz wr ⟨w.heap.size, 2, none⟩)
          case atStart => exact ⟨0, by omega, by rw [List.replicate_zero, List.append_nil]; exact HA3.out, HR2.out, HFA2.out, HFR2.out, HW2.out, hzw2⟩
          case round =>
            obtain ⟨j, hj, hca, hcr, hfa, hfr, hbw, hzw⟩ := hrel
            have HCA := Lib.hid hca
            have HCR := Lib.hid hcr
            have HFA := Lib.hid hfa
            have HFR := Lib.hid hfr
            have HW := Lib.hid hbw
            obtain ⟨a0, a1, a2⟩ := hca
            clear hcr hfr hbw hfa
            have hF0l := HF0l.out
            have DC2 := Lib.hid (fun wx => count_any yn yi (GZ ++ List.replicate j 0) wx HDIy.out (HF0d.out.append (.zeros j)) (by rw [List.length_append, List.length_replicate]; omega))
            rw [← List.append_assoc, cnt_more, HC.out] at DC2
            obtain ⟨S2, hS2⟩ : ∃ S2, S2 = dStr (GZ ++ List.replicate j 0) := ⟨_, rfl⟩
            have hz2 : S2.size = GZ.length + j := by rw [hS2, dStr_size, List.length_append, List.length_replicate]
            rw [← hS2] at a2 DC2
            have HS2 := Lib.hid hS2
            obtain ⟨CJ, hCJ⟩ : ∃ CJ, CJ = C + j := ⟨_, rfl⟩
            rw [← hCJ] at DC2
            have HCJ := Lib.hid hCJ
            clear hS2
            go_wp2_with fail
            clear a0 a1 a2
            (with_reducible refine (DC2.out _).mono ?_)
            rintro e W5 ⟨rfl, hb5⟩
            have hz5 := hb5.size
            obtain ⟨a0, a1, a2⟩ := HCA.out.keep hb5 (by omega)
            have HA5 := Lib.hid (HCA.out.keep hb5 (by omega))
            have HR5 := Lib.hid (HCR.out.keep hb5 (by omega))
            have hfa5 := frozen_keep HFA.out hb5 (by omega)
            have HFA5 := Lib.hid hfa5
            have HFR5 := Lib.hid (frozen_keep HFR.out hb5 (by omega))
            have HW5 := Lib.hid (HW.out.trans (hb5.mono HW.out.size))
            have hzw5 : w.heap.size + 2 ≤ W5.heap.size := by omega
            rw [← HS2.out] at a2
            clear hb5 hz5 hzw
            by_cases hlt : CJ < least
            · have g1 : (CJ : Int) < (least : Int) := by omega
              have g6 : ¬ 9223372036854775807 < S2.size + 1 := by omega
              have g7 : ¬ 9223372036854775807 < GZ.length + j + 1 := by omega
              have HX : Hid (S2 ++ (⟨#[48]⟩ : ByteArray) = dStr (GZ ++ List.replicate (j + 1) 0)) := by
                show _ = _
                rw [HS2.out, show (⟨#[48]⟩ : ByteArray) = dStr [0] from rfl, dStr_append, List.append_assoc, List.replicate_succ']
              have HZ5 := Lib.hid hzw5
              have HZ2 := Lib.hid hz2
              clear hzw5
              go_wp2
              go_roundw
              case rel =>
                refine ⟨j + 1, by omega, ?_, ?_, ?_, ?_, HW5.out.setCell (p := ⟨w.heap.size, 2, none⟩) (Nat.le_refl _) _, by have := HZ5.out; simpa [World.setCell] using this⟩
                · rw [← HX.out]
                  exact ⟨cell_set_far _ _ _ _ _ _ (by decide) HA5.out.1, cell_set_far _ _ _ _ _ _ (by decide) HA5.out.2.1, cell_set_same _ _ _ _ HA5.out.2.2⟩
                · exact ⟨(World.cell?_setCell_other _ _ _ _ (fun e => by have := congrArg Addr.block e; simp at this)).trans HR5.out.1, (World.cell?_setCell_other _ _ _ _ (fun e => by have := congrArg Addr.block e; simp at this)).trans HR5.out.2.1, (World.cell?_setCell_other _ _ _ _ (fun e => by have := congrArg Addr.block e; simp at this)).trans HR5.out.2.2⟩
                · intro i; simpa using HFA5.out i
                · intro i; simpa using HFR5.out i
              case measure =>
                unfold cellSz
                rw [cell_set_same _ _ _ _ HA5.out.2.2, HCA.out.2.2]
                show 1000 - (S2 ++ (⟨#[48]⟩ : ByteArray)).size < 1000 - (dStr (GZ ++ List.replicate j 0)).size
                rw [HX.out, dStr_size, dStr_size]
                simp
                omega
            · have g1 : ¬ (CJ : Int) < (least : Int) := by omega
              have SX : Hid (S2 = dStr (GZ ++ List.replicate (least - C) 0)) := by
                show _ = _
                rw [HS2.out, show j = least - C by omega]
              go_wp2_with fail
              clear a0 a1 a2
              (with_reducible refine (DBD.out _ ?_).mono ?_)
              · exact SX.out
              rintro e W6 ⟨rfl, hb6⟩
              obtain ⟨r0, r1, r2⟩ := HR5.out.keep hb6 (by omega)
              have z0 := frozen_keep HFR5.out hb6 (by omega)
              obtain ⟨e0, e1, e2⟩ := res_cells r0 r1 r2 (.bool zn) (.string zi) (.string zf)
              have HB6 := Lib.hid (HW5.out.trans (hb6.mono HW5.out.size))
              clear hb6
              go_wp2
              exact bodyPost_ret (v := .tuple #[.agg #[.bool zn, .string zi, .string zf], .int .i64 c]) (by simp [results, Try.results28, go_sem, e0, e1, e2]) rfl ⟨rfl, res_below HB6.out (by omega) _ _ _⟩
end Go.Proofs.Ytcdmanhhddcmcaa

namespace Go.Proofs.Ytcdmanhhddcmcaa
open Go.RowKit
attribute [local go_sem ↓] Go.wp_at_zero Go.wp_at_succ

set_option maxHeartbeats 4000000 in
set_option maxRecDepth 100000 in
theorem rs_roundB (xn : Bool) (xi xf : List Nat) (mode most : Int) (least : Nat) (s : Int) (L NN QQ : ByteArray) (yn : Bool) (yi yf : List Nat) (zn : Bool) (zi zf : ByteArray) (c : Int) (w : World) (H1 : (∀ wx : World, Calls Try.prog 60 #[(.agg #[.bool xn, .string (dStr xi), .string (dStr xf)]), .int .i64 mode] wx fun e w' => e = .returned (.int .i64 0) ∧ Below wx.heap.size wx w')) (H2 : (∀ wx : World, Calls Try.prog 61 #[(.agg #[.bool xn, .string (dStr xi), .string (dStr xf)])] wx fun e w' => e = .returned (.int .i64 s) ∧ Below wx.heap.size wx w')) (H3 : (∀ (wx : World) {X : ByteArray}, X = dStr xi ++ dStr xf → Calls Try.prog 62 #[.string X] wx fun r w' => r = .returned (.string L) ∧ wx = w')) (H4 : (∀ (wx : World) {nI : Int}, nI = s - most → Calls Try.prog 64 #[.int .i64 nI] wx fun r w' => r = .returned (.string NN) ∧ Below wx.heap.size wx w')) (H5 : (∀ (wx : World) {X Y : ByteArray}, X = dStr xi ++ dStr xf → Y = ⟨#[49]⟩ ++ NN → Calls Try.prog 63 #[.int .i64 mode, .bool xn, .string X, .string Y] wx fun r w' => r = .returned (.tuple #[.string QQ, .int .i64 0]) ∧ Below wx.heap.size wx w')) (H7 : (∀ (wx : World) {nI : Int}, nI = (xf.length : Int) - (s - most) → Calls Try.prog 65 #[.bool xn, .string QQ, .int .i64 nI] wx fun r w' => r = .returned (.agg #[.bool yn, .string (dStr yi), .string (dStr yf)]) ∧ Below wx.heap.size wx w')) (H9 : (∀ (wx : World) {F : ByteArray}, F = dStr (yf.take (cutS yi yf least yf.length) ++ List.replicate (least - cntL (yi ++ yf.take (cutS yi yf least yf.length))) 0) → Calls Try.prog 66 #[.agg #[.bool yn, .string (dStr yi), .string F]] wx fun r w' => r = .returned (.tuple #[.agg #[.bool zn, .string zi, .string zf], .int .i64 c]) ∧ Below wx.heap.size wx w')) (h0 : 1 ≤ least) (h1 : least ≤ 40) (h2 : ¬ most < (least : Int)) (h3 : ¬ 40 < most) (hm : xi.length + xf.length ≤ 40) (hdi : Digs xi) (hdf : Digs xf) (hs : 0 < s - most) (b1 : s ≤ 1000) (b2 : 0 ≤ most) (qL : (L.toList == [48]) = false) (hNs : NN.size ≤ 1000) (hdiy : Digs yi) (hdfy : Digs yf) (hmy : yi.length + yf.length ≤ 100) (hd : ¬ (xf.length : Int) ≤ s - most) :
    Calls Try.prog 28 #[(.agg #[.bool xn, .string (dStr xi), .string (dStr xf)]), .int .i64 mode, .int .i64 (least : Int), .int .i64 most] w fun e w' => e = .returned (.tuple #[(.agg #[.bool zn, .string zi, .string zf]), .int .i64 c]) ∧ Below w.heap.size w w' := by
  have D1 := Lib.hid H1
  have D2 := Lib.hid H2
  have D3 := Lib.hid H3
  have D4 := Lib.hid H4
  have D5 := Lib.hid H5
  have D7 := Lib.hid H7
  have D9 := Lib.hid H9
  clear H1 H2 H3 H4 H5 H7 H9
  have q0 : ((0 : Int) != 0) = false := by decide
  have q10 : decide ((least : Int) < 1) = false := decide_eq_false (by omega)
  have q11 : decide ((40 : Int) < (least : Int)) = false := decide_eq_false (by omega)
  have q12 : decide (most < (least : Int)) = false := decide_eq_false h2
  have q13 : decide (40 < most) = false := decide_eq_false h3
  have HDF := Lib.hid hdf
  have HDI := Lib.hid hdi
  have wzs : IntKind.i64.wrap (s - most) = s - most := IntWalk.i64_in _ (by omega)
  have qs : decide (0 < s - most) = true := decide_eq_true hs
  clear hdf hdi h2 h3
  have gov : ¬ 9223372036854775807 < (dStr xi).size + (dStr xf).size := by rw [dStr_size, dStr_size]; omega
  have gov1 : ¬ 9223372036854775807 < xi.length + xf.length := by omega
  have gov2 : ¬ 9223372036854775807 < 1 + NN.size := by omega
  have HDFy := Lib.hid hdfy
  have HDIy := Lib.hid hdiy
  clear hdfy hdiy
  have hdz : ¬ ((dStr xf).size : Int) ≤ s - most := by rw [dStr_size]; exact hd
  have wz6 : IntKind.i64.wrap (((dStr xf).size : Int) - (s - most)) = ((dStr xf).size : Int) - (s - most) := by rw [dStr_size]; exact IntWalk.i64_in _ (by omega)
  have qd : decide ((xf.length : Int) ≤ s - most) = false := decide_eq_false hd
  have wz5 : IntKind.i64.wrap ((xf.length : Int) - (s - most)) = (xf.length : Int) - (s - most) := IntWalk.i64_in _ (by omega)
  go_enter Try.func28, Try.ntmps28
  go_wp2_with fail
  obtain ⟨W0, hW0⟩ : ∃ W0, W0 = ((w.alloc (.cells #[.bool xn, .string (dStr xi), .string (dStr xf)] 23)).alloc (.cells #[.bool false, .string ⟨#[]⟩, .string ⟨#[]⟩] 23)) := ⟨_, rfl⟩
  obtain ⟨hB, hz, C0, C1, FL⟩ : Below w.heap.size w W0 ∧ w.heap.size + 2 ≤ W0.heap.size ∧ Cells3 W0 w.heap.size (.bool xn) (.string (dStr xi)) (.string (dStr xf)) ∧ Cells3 W0 (w.heap.size + 1) (.bool false) (.string ⟨#[]⟩) (.string ⟨#[]⟩) ∧ ∀ i, W0.frozen? ⟨(w.heap.size + 1), i, none⟩ = false := by rw [hW0]; exact ⟨below_two w _ _, two_boxes w _ _ _ _ _ _ _⟩
  have z0 : w.heap.size + 1 ≤ W0.heap.size := by omega
  have z1 : (w.heap.size + 1) + 1 ≤ W0.heap.size := by omega
  rw [← hW0]
  have HB := Lib.hid hB
  have F1 := Lib.hid FL
  have F0 := Lib.hid (show ∀ i, W0.frozen? ⟨w.heap.size, i, none⟩ = false by rw [hW0]; exact frozen_keep (one_box w (.bool xn) (.string (dStr xi)) (.string (dStr xf)) 23).2.2 ((Below.refl _ _).alloc (Nat.le_refl _) _) (by simp))
  clear hW0 hB hz FL
  (with_reducible refine (D1.out _).mono ?_)
  rintro e V1 ⟨rfl, hb⟩
  replace F0 := Lib.hid (frozen_keep F0.out hb (by omega))
  replace F1 := Lib.hid (frozen_keep F1.out hb (by omega))
  replace C0 := C0.keep hb (by omega)
  replace z0 : w.heap.size + 1 ≤ V1.heap.size := by have := hb.size; omega
  replace C1 := C1.keep hb (by omega)
  replace z1 : (w.heap.size + 1) + 1 ≤ V1.heap.size := by have := hb.size; omega
  replace HB := Lib.hid (HB.out.trans (hb.mono HB.out.size))
  clear hb
  have o00 := C0.1
  have o10 := C1.1
  have o01 := C0.2.1
  have o02 := C0.2.2
  have o11 := C1.2.1
  have o12 := C1.2.2
  go_wp2_with fail
  clear o00 o01 o02 o10 o11 o12
  (with_reducible refine (D2.out _).mono ?_)
  rintro e V2 ⟨rfl, hb⟩
  replace F0 := Lib.hid (frozen_keep F0.out hb (by omega))
  replace F1 := Lib.hid (frozen_keep F1.out hb (by omega))
  replace C0 := C0.keep hb (by omega)
  replace z0 : w.heap.size + 1 ≤ V2.heap.size := by have := hb.size; omega
  replace C1 := C1.keep hb (by omega)
  replace z1 : (w.heap.size + 1) + 1 ≤ V2.heap.size := by have := hb.size; omega
  replace HB := Lib.hid (HB.out.trans (hb.mono HB.out.size))
  clear hb
  have o00 := C0.1
  have o10 := C1.1
  have o01 := C0.2.1
  have o02 := C0.2.2
  have o11 := C1.2.1
  have o12 := C1.2.2
  go_wp2_with fail
  (with_reducible refine (D3.out _ ?_).mono ?_)
  · rfl
  rintro e V3 ⟨rfl, rfl⟩
  have C0h := Lib.hid C0
  have C1h := Lib.hid C1
  go_wp2_with fail
  go_region_held3 (fun w' => w'.cell? ⟨w.heap.size, 0, none⟩ = some (.bool xn) ∧ w'.cell? ⟨w.heap.size, 1, none⟩ = some (.string (dStr xi)) ∧ w'.cell? ⟨w.heap.size, 2, none⟩ = some (.string (dStr xf)))
    (first
      | exact ⟨o00, o01, o02⟩
      | (have t := C0h.out.keep hb4 (by omega); exact ⟨t.1, t.2.1, t.2.2⟩)
      | (have t := C0h.out.keep (undrew hbA) (by omega); exact ⟨t.1, t.2.1, t.2.2⟩)
      | go_keep)
    (first
      | (go_at_call 64; (with_reducible refine (D4.out _ ?_).mono ?_); (focus rfl); rintro e wA ⟨rfl, hbA⟩)
      | (go_at_call 63; (with_reducible refine (D5.out _ ?_ ?_).mono ?_); (focus rfl); (focus rfl); rintro e wB ⟨rfl, hbB⟩
         have hb4 : Below V2.heap.size V2 wB := (undrew hbA).trans (hbB.mono (undrew hbA).size)))
  clear o00 o01 o02 o10 o11 o12
  replace C0 := C0h.out.keep hb4 (by omega)
  replace C1 := C1h.out.keep hb4 (by omega)
  replace F0 := Lib.hid (frozen_keep F0.out hb4 (by omega))
  replace F1 := Lib.hid (frozen_keep F1.out hb4 (by omega))
  replace HB := Lib.hid (HB.out.trans (hb4.mono HB.out.size))
  have hzB : w.heap.size + 2 ≤ wB.heap.size := by have := hb4.size; omega
  clear hb4 hbA hbB C0h C1h z0 z1
  obtain ⟨p0, p1, p2⟩ := C0
  have C0h := Lib.hid (show Cells3 wB w.heap.size _ _ _ from ⟨p0, p1, p2⟩)
  have f0 := F0.out
  go_wp2_with fail
  (with_reducible refine (D7.out _ ?_).mono ?_)
  · first | rfl | (rw [dStr_size])
  rintro e wM ⟨rfl, hbM⟩
  have hM : Below wB.heap.size wB wM := hbM
  obtain ⟨m0, m1, m2⟩ := C0h.out.keep hM (by omega)
  have fM := frozen_keep F0.out hM (by omega)
  go_wp2_with fail
  all_goals
    clear p0 p1 p2 f0
    obtain ⟨G, hG⟩ : ∃ G, G = ((wM.setCell ⟨w.heap.size, 0, none⟩ (.bool yn)).setCell ⟨w.heap.size, 1, none⟩ (.string (dStr yi))).setCell ⟨w.heap.size, 2, none⟩ (.string (dStr yf)) := ⟨_, rfl⟩
    have HBG : Below w.heap.size w G := by
      rw [hG]
      exact (((HB.out.trans (hM.mono HB.out.size)).setCell (p := ⟨w.heap.size, 0, none⟩) (Nat.le_refl _) _).setCell (p := ⟨w.heap.size, 1, none⟩) (Nat.le_refl _) _).setCell (p := ⟨w.heap.size, 2, none⟩) (Nat.le_refl _) _
    have hzG : w.heap.size + 2 ≤ G.heap.size := by
      have h8 := hM.size
      have h9 : w.heap.size + 2 ≤ wM.heap.size := by omega
      rw [hG]; simpa [World.setCell] using h9
    have CG : Cells3 G w.heap.size (.bool yn) (.string (dStr yi)) (.string (dStr yf)) := by
      rw [hG]
      exact ⟨cell_set_far _ _ _ _ _ _ (by decide) (cell_set_far _ _ _ _ _ _ (by decide) (cell_set_same _ _ _ _ m0)), cell_set_far _ _ _ _ _ _ (by decide) (cell_set_same _ _ _ _ (cell_set_far _ _ _ _ _ _ (by decide) m1)), cell_set_same _ _ _ _ (cell_set_far _ _ _ _ _ _ (by decide) (cell_set_far _ _ _ _ _ _ (by decide) m2))⟩
    have tM := C1.keep hM (by omega)
    have oG : ∀ j, G.cell? ⟨w.heap.size + 1, j, none⟩ = wM.cell? ⟨w.heap.size + 1, j, none⟩ := by
      intro j
      rw [hG]
      exact ((World.cell?_setCell_other _ _ _ _ (fun e => by have := congrArg Addr.block e; simp at this)).trans (World.cell?_setCell_other _ _ _ _ (fun e => by have := congrArg Addr.block e; simp at this))).trans (World.cell?_setCell_other _ _ _ _ (fun e => by have := congrArg Addr.block e; simp at this))
    have DG : Cells3 G (w.heap.size + 1) (.bool false) (.string ⟨#[]⟩) (.string ⟨#[]⟩) := ⟨(oG 0).trans tM.1, (oG 1).trans tM.2.1, (oG 2).trans tM.2.2⟩
    have rM := frozen_keep F1.out hM (by omega)
    have FG : ∀ i, G.frozen? ⟨w.heap.size, i, none⟩ = false := by rw [hG]; intro i; simpa using fM i
    have RG : ∀ i, G.frozen? ⟨w.heap.size + 1, i, none⟩ = false := by rw [hG]; intro i; simpa using rM i
    rw [← hG]
    clear hG oG tM rM hM hbM m0 m1 m2 fM C0h C1 HB hzB 
    replace F0 := Lib.hid FG
    replace F1 := Lib.hid RG
    have HB := Lib.hid HBG
    have C0 := CG
    have C1 := DG
    have o00 := C0.1
    have o01 := C0.2.1
    have o02 := C0.2.2
    have o10 := C1.1
    have o11 := C1.2.1
    have o12 := C1.2.2
    clear FG RG HBG CG DG
    go_wp2_with fail
    obtain ⟨GZ, hF0⟩ : ∃ GZ, GZ = yf.take (cutS yi yf least yf.length) := ⟨_, rfl⟩
    obtain ⟨C, hC⟩ : ∃ C, C = cntL (yi ++ GZ) := ⟨_, rfl⟩
    have HF0 := Lib.hid hF0
    have HC := Lib.hid hC.symm
    have HF0d : Hid (Digs GZ) := by show Digs _; rw [hF0]; exact HDFy.out.take _
    have HF0l : Hid (GZ.length ≤ 100) := by show _ ≤ _; rw [hF0, List.length_take]; omega
    have DBD : Hid (∀ (wx : World) {F : ByteArray}, F = dStr (GZ ++ List.replicate (least - C) 0) → Calls Try.prog 66 #[.agg #[.bool yn, .string (dStr yi), .string F]] wx fun r w' => r = .returned (.tuple #[.agg #[.bool zn, .string zi, .string zf], .int .i64 c]) ∧ Below wx.heap.size wx w') := by
      show ∀ wx : World, _
      rw [hC, hF0]
      exact D9.out
    clear hF0 hC
    go_loopw [] (fun wr => ∃ k : Nat, k ≤ yf.length ∧ cutS yi yf least k = cutS yi yf least yf.length ∧ Cells3 wr w.heap.size (.bool yn) (.string (dStr yi)) (.string (dStr (yf.take k))) ∧ Cells3 wr (w.heap.size + 1) (.bool false) (.string ⟨#[]⟩) (.string ⟨#[]⟩) ∧ (∀ i, wr.frozen? ⟨w.heap.size, i, none⟩ = false) ∧ (∀ i, wr.frozen? ⟨w.heap.size + 1, i, none⟩ = false) ∧ Below w.heap.size w wr ∧ w.heap.size + 2 ≤ wr.heap.size) (fun wr => cellSz wr ⟨w.heap.size, 2, none⟩)
    case atStart => exact ⟨yf.length, Nat.le_refl _, rfl, by rw [List.take_length]; exact C0, C1, F0.out, F1.out, HB.out, by omega⟩
    case round =>
      obtain ⟨k, hk, hE, hca, hcr, hfa, hfr, hbw, hzw⟩ := hrel
      have HE := Lib.hid hE
      have HCA := Lib.hid hca
      have HCR := Lib.hid hcr
      have HFA := Lib.hid hfa
      have HFR := Lib.hid hfr
      have HW := Lib.hid hbw
      obtain ⟨a0, a1, a2⟩ := hca
      clear hE hcr hfr hbw hfa
      have DCk := Lib.hid (fun wx => count_any yn yi (yf.take k) wx HDIy.out (HDFy.out.take k) (by rw [List.length_take]; omega))
      obtain ⟨S, hS⟩ : ∃ S, S = dStr (yf.take k) := ⟨_, rfl⟩
      have hz : S.size = k := by rw [hS, dStr_size, List.length_take]; omega
      rw [← hS] at a2 DCk
      have HS := Lib.hid hS
      clear hS
      obtain ⟨K, hK⟩ : ∃ K, K = cntL (yi ++ yf.take k) := ⟨_, rfl⟩
      have HK := Lib.hid hK
      have hKb : K ≤ 1000 := by
        rw [hK]
        exact cnt_le (n := 100) (HDIy.out.append (HDFy.out.take k)) (by rw [List.length_append, List.length_take]; omega) (by omega)
      rw [← hK] at DCk
      clear hK
      by_cases hgo : least < K ∧ 0 < k ∧ yf.getD (k - 1) 0 = 0
      · obtain ⟨m, rfl⟩ : ∃ m, k = m + 1 := ⟨k - 1, by omega⟩
        obtain ⟨g1, -, h0⟩ := hgo
        rw [Nat.add_sub_cancel] at h0
        have hms : m < S.size := by omega
        have hget : (S[m]'hms).toNat = 48 + (yf.take (m + 1)).getD m 0 := by
          have e := HS.out
          subst e
          exact dStr_get _ (HDFy.out.take _) m hms
        have hg2 : (yf.take (m + 1)).getD m 0 = yf.getD m 0 := by
          rw [List.getD_eq_getElem?_getD, List.getD_eq_getElem?_getD, List.getElem?_take, if_pos (by omega)]
        rw [hg2, h0] at hget
        have q48 : (((S[m]'hms).toNat : Int) == 48) = true := by rw [hget]; rfl
        have g2 : (least : Int) < (K : Int) := by omega
        have ST := Lib.hid (show cutS yi yf least (m + 1) = cutS yi yf least m from if_pos ⟨by rw [← HK.out]; exact g1, h0⟩)
        have HX := Lib.hid (show S.extract 0 m = dStr (yf.take m) by rw [HS.out, dStr_ext, List.drop_zero, List.take_take, Nat.min_eq_left (by omega)])
        have HZ := Lib.hid hz
        have HZW := Lib.hid hzw
        clear hget h0 hg2
        go_wp2_with fail
        clear a0 a1 a2
        (with_reducible refine (DCk.out _).mono ?_)
        rintro e W2 ⟨rfl, hb2⟩
        have hz2 := hb2.size
        obtain ⟨a0, a1, a2⟩ := HCA.out.keep hb2 (by omega)
        have HA2 := Lib.hid (HCA.out.keep hb2 (by omega))
        have HR2 := Lib.hid (HCR.out.keep hb2 (by omega))
        have hfa2 := frozen_keep HFA.out hb2 (by omega)
        have HFA2 := Lib.hid hfa2
        have HFR2 := Lib.hid (frozen_keep HFR.out hb2 (by omega))
        have HW2 := Lib.hid (HW.out.trans (hb2.mono HW.out.size))
        have HZ2 : Hid (w.heap.size + 2 ≤ W2.heap.size) := by show _ ≤ _; omega
        rw [← HS.out] at a2
        clear hb2 hz2 hzw
        go_wp2
        go_roundw
        case rel =>
          refine ⟨m, by omega, by rw [← HE.out, ST.out], ?_, ?_, ?_, ?_, HW2.out.setCell (p := ⟨w.heap.size, 2, none⟩) (Nat.le_refl _) _, by have := HZ2.out; simpa [World.setCell] using this⟩
          · rw [← HX.out]
            exact ⟨cell_set_far _ _ _ _ _ _ (by decide) HA2.out.1, cell_set_far _ _ _ _ _ _ (by decide) HA2.out.2.1, cell_set_same _ _ _ _ HA2.out.2.2⟩
          · exact ⟨(World.cell?_setCell_other _ _ _ _ (fun e => by have := congrArg Addr.block e; simp at this)).trans HR2.out.1, (World.cell?_setCell_other _ _ _ _ (fun e => by have := congrArg Addr.block e; simp at this)).trans HR2.out.2.1, (World.cell?_setCell_other _ _ _ _ (fun e => by have := congrArg Addr.block e; simp at this)).trans HR2.out.2.2⟩
          · intro i; simpa using HFA2.out i
          · intro i; simpa using HFR2.out i
        case measure =>
          unfold cellSz
          rw [cell_set_same _ _ _ _ HA2.out.2.2, HCA.out.2.2]
          simp [dStr_size]
          omega
      · have KE : Hid (k = cutS yi yf least yf.length) := by
          show _ = _
          rw [← HE.out]
          cases k with
          | zero => rfl
          | succ m => exact (if_neg (fun h => hgo ⟨by rw [HK.out]; exact h.1, by omega, by rw [Nat.add_sub_cancel]; exact h.2⟩)).symm
        go_wp2_with fail
        clear a0 a1 a2
        (with_reducible refine (DCk.out _).mono ?_)
        rintro e W2 ⟨rfl, hb2⟩
        have hz2 := hb2.size
        obtain ⟨a0, a1, a2⟩ := HCA.out.keep hb2 (by omega)
        have HA2 := Lib.hid (HCA.out.keep hb2 (by omega))
        have HR2 := Lib.hid (HCR.out.keep hb2 (by omega))
        have HFA2 := Lib.hid (frozen_keep HFA.out hb2 (by omega))
        have HFR2 := Lib.hid (frozen_keep HFR.out hb2 (by omega))
        have HW2 := Lib.hid (HW.out.trans (hb2.mono HW.out.size))
        have hzw2 : w.heap.size + 2 ≤ W2.heap.size := by omega
        rw [← HS.out] at a2
        clear hb2 hz2 hzw
        by_cases hk1 : least < K
        · have g1 : (least : Int) < (K : Int) := by omega
          by_cases hk2 : 0 < k
          · obtain ⟨m, rfl⟩ : ∃ m, k = m + 1 := ⟨k - 1, by omega⟩
            have hms : m < S.size := by omega
            have hget : (S[m]'hms).toNat = 48 + (yf.take (m + 1)).getD m 0 := by
              have e := HS.out
              subst e
              exact dStr_get _ (HDFy.out.take _) m hms
            have hg2 : (yf.take (m + 1)).getD m 0 = yf.getD m 0 := by
              rw [List.getD_eq_getElem?_getD, List.getD_eq_getElem?_getD, List.getElem?_take, if_pos (by omega)]
            have hne : yf.getD m 0 ≠ 0 := fun h => hgo ⟨hk1, hk2, by rw [Nat.add_sub_cancel]; exact h⟩
            have q48 : (((S[m]'hms).toNat : Int) == 48) = false := by rw [hget, hg2, beq_eq_false_iff_ne]; omega
            clear hgo hget hg2 hne
            go_wp2_with fail
            have HA3 : Hid (Cells3 W2 w.heap.size (.bool yn) (.string (dStr yi)) (.string (dStr GZ))) := by
              show Cells3 _ _ _ _ _
              rw [HF0.out, ← KE.out]
              exact HA2.out
            clear a0 a1 a2
            go_loopw [] (fun wr => ∃ j : Nat, j ≤ least - C ∧ Cells3 wr w.heap.size (.bool yn) (.string (dStr yi)) (.string (dStr (GZ ++ List.replicate j 0))) ∧ Cells3 wr (w.heap.size + 1) (.bool false) (.string ⟨#[]⟩) (.string ⟨#[]⟩) ∧ (∀ i, wr.frozen? ⟨w.heap.size, i, none⟩ = false) ∧ (∀ i, wr.frozen? ⟨w.heap.size + 1, i, none⟩ = false) ∧ Below w.heap.size w wr ∧ w.heap.size + 2 ≤ wr.heap.size) (fun wr => 1000 - cellSz wr ⟨w.heap.size, 2, none⟩)
            case atStart => exact ⟨0, by omega, by rw [List.replicate_zero, List.append_nil]; exact HA3.out, HR2.out, HFA2.out, HFR2.out, HW2.out, hzw2⟩
            case round =>
              obtain ⟨j, hj, hca, hcr, hfa, hfr, hbw, hzw⟩ := hrel
              have HCA := Lib.hid hca
              have HCR := Lib.hid hcr
              have HFA := Lib.hid hfa
              have HFR := Lib.hid hfr
              have HW := Lib.hid hbw
              obtain ⟨a0, a1, a2⟩ := hca
              clear hcr hfr hbw hfa
              have hF0l := HF0l.out
              have DC2 := Lib.hid (fun wx => count_any yn yi (GZ ++ List.replicate j 0) wx HDIy.out (HF0d.out.append (.zeros j)) (by rw [List.length_append, List.length_replicate]; omega))
              rw [← List.append_assoc, cnt_more, HC.out] at DC2
              obtain ⟨S2, hS2⟩ : ∃ S2, S2 = dStr (GZ ++ List.replicate j 0) := ⟨_, rfl⟩
              have hz2 : S2.size = GZ.length + j := by rw [hS2, dStr_size, List.length_append, List.length_replicate]
              rw [← hS2] at a2 DC2
              have HS2 := Lib.hid hS2
              obtain ⟨CJ, hCJ⟩ : ∃ CJ, CJ = C + j := ⟨_, rfl⟩
              rw [← hCJ] at DC2
              have HCJ := Lib.hid hCJ
              clear hS2
              go_wp2_with fail
              clear a0 a1 a2
              (with_reducible refine (DC2.out _).mono ?_)
              rintro e W5 ⟨rfl, hb5⟩
              have hz5 := hb5.size
              obtain ⟨a0, a1, a2⟩ := HCA.out.keep hb5 (by omega)
              have HA5 := Lib.hid (HCA.out.keep hb5 (by omega))
              have HR5 := Lib.hid (HCR.out.keep hb5 (by omega))
              have hfa5 := frozen_keep HFA.out hb5 (by omega)
              have HFA5 := Lib.hid hfa5
              have HFR5 := Lib.hid (frozen_keep HFR.out hb5 (by omega))
              have HW5 := Lib.hid (HW.out.trans (hb5.mono HW.out.size))
              have hzw5 : w.heap.size + 2 ≤ W5.heap.size := by omega
              rw [← HS2.out] at a2
              clear hb5 hz5 hzw
              by_cases hlt : CJ < least
              · have g1 : (CJ : Int) < (least : Int) := by omega
                have g6 : ¬ 9223372036854775807 < S2.size + 1 := by omega
                have g7 : ¬ 9223372036854775807 < GZ.length + j + 1 := by omega
                have HX : Hid (S2 ++ (⟨#[48]⟩ : ByteArray) = dStr (GZ ++ List.replicate (j + 1) 0)) := by
                  show _ = _
                  rw [HS2.out, show (⟨#[48]⟩ : ByteArray) = dStr [0] from rfl, dStr_append, List.append_assoc, List.replicate_succ']
                have HZ5 := Lib.hid hzw5
                have HZ2 := Lib.hid hz2
                clear hzw5
                go_wp2
                go_roundw
                case rel =>
                  refine ⟨j + 1, by omega, ?_, ?_, ?_, ?_, HW5.out.setCell (p := ⟨w.heap.size, 2, none⟩) (Nat.le_refl _) _, by have := HZ5.out; simpa [World.setCell] using this⟩
                  · rw [← HX.out]
                    exact ⟨cell_set_far _ _ _ _ _ _ (by decide) HA5.out.1, cell_set_far _ _ _ _ _ _ (by decide) HA5.out.2.1, cell_set_same _ _ _ _ HA5.out.2.2⟩
                  · exact ⟨(World.cell?_setCell_other _ _ _ _ (fun e => by have := congrArg Addr.block e; simp at this)).trans HR5.out.1, (World.cell?_setCell_other _ _ _ _ (fun e => by have := congrArg Addr.block e; simp at this)).trans HR5.out.2.1, (World.cell?_setCell_other _ _ _ _ (fun e => by have := congrArg Addr.block e; simp at this)).trans HR5.out.2.2⟩
                  · intro i; simpa using HFA5.out i
                  · intro i; simpa using HFR5.out i
                case measure =>
                  unfold cellSz
                  rw [cell_set_same _ _ _ _ HA5.out.2.2, HCA.out.2.2]
                  show 1000 - (S2 ++ (⟨#[48]⟩ : ByteArray)).size < 1000 - (dStr (GZ ++ List.replicate j 0)).size
                  rw [HX.out, dStr_size, dStr_size]
                  simp
                  omega
              · have g1 : ¬ (CJ : Int) < (least : Int) := by omega
                have SX : Hid (S2 = dStr (GZ ++ List.replicate (least - C) 0)) := by
                  show _ = _
                  rw [HS2.out, show j = least - C by omega]
                go_wp2_with fail
                clear a0 a1 a2
                (with_reducible refine (DBD.out _ ?_).mono ?_)
                · exact SX.out
                rintro e W6 ⟨rfl, hb6⟩
                obtain ⟨r0, r1, r2⟩ := HR5.out.keep hb6 (by omega)
                have z0 := frozen_keep HFR5.out hb6 (by omega)
                obtain ⟨e0, e1, e2⟩ := res_cells r0 r1 r2 (.bool zn) (.string zi) (.string zf)
                have HB6 := Lib.hid (HW5.out.trans (hb6.mono HW5.out.size))
                clear hb6
                go_wp2
                exact bodyPost_ret (v := .tuple #[.agg #[.bool zn, .string zi, .string zf], .int .i64 c]) (by simp [results, Try.results28, go_sem, e0, e1, e2]) rfl ⟨rfl, res_below HB6.out (by omega) _ _ _⟩
          · obtain rfl : k = 0 := by omega
            go_wp2_with fail
            have HA3 : Hid (Cells3 W2 w.heap.size (.bool yn) (.string (dStr yi)) (.string (dStr GZ))) := by
              show Cells3 _ _ _ _ _
              rw [HF0.out, ← KE.out]
              exact HA2.out
            clear a0 a1 a2
            go_loopw [] (fun wr => ∃ j : Nat, j ≤ least - C ∧ Cells3 wr w.heap.size (.bool yn) (.string (dStr yi)) (.string (dStr (GZ ++ List.replicate j 0))) ∧ Cells3 wr (w.heap.size + 1) (.bool false) (.string ⟨#[]⟩) (.string ⟨#[]⟩) ∧ (∀ i, wr.frozen? ⟨w.heap.size, i, none⟩ = false) ∧ (∀ i, wr.frozen? ⟨w.heap.size + 1, i, none⟩ = false) ∧ Below w.heap.size w wr ∧ w.heap.size + 2 ≤ wr.heap.size) (fun wr => 1000 - cellSz wr ⟨w.heap.size, 2, none⟩)
            case atStart => exact ⟨0, by omega, by rw [List.replicate_zero, List.append_nil]; exact HA3.out, HR2.out, HFA2.out, HFR2.out, HW2.out, hzw2⟩
            case round =>
              obtain ⟨j, hj, hca, hcr, hfa, hfr, hbw, hzw⟩ := hrel
              have HCA := Lib.hid hca
              have HCR := Lib.hid hcr
              have HFA := Lib.hid hfa
              have HFR := Lib.hid hfr
              have HW := Lib.hid hbw
              obtain ⟨a0, a1, a2⟩ := hca
              clear hcr hfr hbw hfa
              have hF0l := HF0l.out
              have DC2 := Lib.hid (fun wx => count_any yn yi (GZ ++ List.replicate j 0) wx HDIy.out (HF0d.out.append (.zeros j)) (by rw [List.length_append, List.length_replicate]; omega))
              rw [← List.append_assoc, cnt_more, HC.out] at DC2
              obtain ⟨S2, hS2⟩ : ∃ S2, S2 = dStr (GZ ++ List.replicate j 0) := ⟨_, rfl⟩
              have hz2 : S2.size = GZ.length + j := by rw [hS2, dStr_size, List.length_append, List.length_replicate]
              rw [← hS2] at a2 DC2
              have HS2 := Lib.hid hS2
              obtain ⟨CJ, hCJ⟩ : ∃ CJ, CJ = C + j := ⟨_, rfl⟩
              rw [← hCJ] at DC2
              have HCJ := Lib.hid hCJ
              clear hS2
              go_wp2_with fail
              clear a0 a1 a2
              (with_reducible refine (DC2.out _).mono ?_)
              rintro e W5 ⟨rfl, hb5⟩
              have hz5 := hb5.size
              obtain ⟨a0, a1, a2⟩ := HCA.out.keep hb5 (by omega)
              have HA5 := Lib.hid (HCA.out.keep hb5 (by omega))
              have HR5 := Lib.hid (HCR.out.keep hb5 (by omega))
              have hfa5 := frozen_keep HFA.out hb5 (by omega)
              have HFA5 := Lib.hid hfa5
              have HFR5 := Lib.hid (frozen_keep HFR.out hb5 (by omega))
              have HW5 := Lib.hid (HW.out.trans (hb5.mono HW.out.size))
              have hzw5 : w.heap.size + 2 ≤ W5.heap.size := by omega
              rw [← HS2.out] at a2
              clear hb5 hz5 hzw
              by_cases hlt : CJ < least
              · have g1 : (CJ : Int) < (least : Int) := by omega
                have g6 : ¬ 9223372036854775807 < S2.size + 1 := by omega
                have g7 : ¬ 9223372036854775807 < GZ.length + j + 1 := by omega
                have HX : Hid (S2 ++ (⟨#[48]⟩ : ByteArray) = dStr (GZ ++ List.replicate (j + 1) 0)) := by
                  show _ = _
                  rw [HS2.out, show (⟨#[48]⟩ : ByteArray) = dStr [0] from rfl, dStr_append, List.append_assoc, List.replicate_succ']
                have HZ5 := Lib.hid hzw5
                have HZ2 := Lib.hid hz2
                clear hzw5
                go_wp2
                go_roundw
                case rel =>
                  refine ⟨j + 1, by omega, ?_, ?_, ?_, ?_, HW5.out.setCell (p := ⟨w.heap.size, 2, none⟩) (Nat.le_refl _) _, by have := HZ5.out; simpa [World.setCell] using this⟩
                  · rw [← HX.out]
                    exact ⟨cell_set_far _ _ _ _ _ _ (by decide) HA5.out.1, cell_set_far _ _ _ _ _ _ (by decide) HA5.out.2.1, cell_set_same _ _ _ _ HA5.out.2.2⟩
                  · exact ⟨(World.cell?_setCell_other _ _ _ _ (fun e => by have := congrArg Addr.block e; simp at this)).trans HR5.out.1, (World.cell?_setCell_other _ _ _ _ (fun e => by have := congrArg Addr.block e; simp at this)).trans HR5.out.2.1, (World.cell?_setCell_other _ _ _ _ (fun e => by have := congrArg Addr.block e; simp at this)).trans HR5.out.2.2⟩
                  · intro i; simpa using HFA5.out i
                  · intro i; simpa using HFR5.out i
                case measure =>
                  unfold cellSz
                  rw [cell_set_same _ _ _ _ HA5.out.2.2, HCA.out.2.2]
                  show 1000 - (S2 ++ (⟨#[48]⟩ : ByteArray)).size < 1000 - (dStr (GZ ++ List.replicate j 0)).size
                  rw [HX.out, dStr_size, dStr_size]
                  simp
                  omega
              · have g1 : ¬ (CJ : Int) < (least : Int) := by omega
                have SX : Hid (S2 = dStr (GZ ++ List.replicate (least - C) 0)) := by
                  show _ = _
                  rw [HS2.out, show j = least - C by omega]
                go_wp2_with fail
                clear a0 a1 a2
                (with_reducible refine (DBD.out _ ?_).mono ?_)
                · exact SX.out
                rintro e W6 ⟨rfl, hb6⟩
                obtain ⟨r0, r1, r2⟩ := HR5.out.keep hb6 (by omega)
                have z0 := frozen_keep HFR5.out hb6 (by omega)
                obtain ⟨e0, e1, e2⟩ := res_cells r0 r1 r2 (.bool zn) (.string zi) (.string zf)
                have HB6 := Lib.hid (HW5.out.trans (hb6.mono HW5.out.size))
                clear hb6
                go_wp2
                exact bodyPost_ret (v := .tuple #[.agg #[.bool zn, .string zi, .string zf], .int .i64 c]) (by simp [results, Try.results28, go_sem, e0, e1, e2]) rfl ⟨rfl, res_below HB6.out (by omega) _ _ _⟩
        · have g1 : ¬ (least : Int) < (K : Int) := by omega
          go_wp2_with fail
          have HA3 : Hid (Cells3 W2 w.heap.size (.bool yn) (.string (dStr yi)) (.string (dStr GZ))) := by
            show Cells3 _ _ _ _ _
            rw [HF0.out, ← KE.out]
            exact HA2.out
          clear a0 a1 a2
          go_loopw [] (fun wr => ∃ j : Nat, j ≤ least - C ∧ Cells3 wr w.heap.size (.bool yn) (.string (dStr yi)) (.string (dStr (GZ ++ List.replicate j 0))) ∧ Cells3 wr (w.heap.size + 1) (.bool false) (.string ⟨#[]⟩) (.string ⟨#[]⟩) ∧ (∀ i, wr.frozen? ⟨w.heap.size, i, none⟩ = false) ∧ (∀ i, wr.frozen? ⟨w.heap.size + 1, i, none⟩ = false) ∧ Below w.heap.size w wr ∧ w.heap.size + 2 ≤ wr.heap.size) (fun wr => 1000 - cellSz wr ⟨w.heap.size, 2, none⟩)
          case atStart => exact ⟨0, by omega, by rw [List.replicate_zero, List.append_nil]; exact HA3.out, HR2.out, HFA2.out, HFR2.out, HW2.out, hzw2⟩
          case round =>
            obtain ⟨j, hj, hca, hcr, hfa, hfr, hbw, hzw⟩ := hrel
            have HCA := Lib.hid hca
            have HCR := Lib.hid hcr
            have HFA := Lib.hid hfa
            have HFR := Lib.hid hfr
            have HW := Lib.hid hbw
            obtain ⟨a0, a1, a2⟩ := hca
            clear hcr hfr hbw hfa
            have hF0l := HF0l.out
            have DC2 := Lib.hid (fun wx => count_any yn yi (GZ ++ List.replicate j 0) wx HDIy.out (HF0d.out.append (.zeros j)) (by rw [List.length_append, List.length_replicate]; omega))
            rw [← List.append_assoc, cnt_more, HC.out] at DC2
            obtain ⟨S2, hS2⟩ : ∃ S2, S2 = dStr (GZ ++ List.replicate j 0) := ⟨_, rfl⟩
            have hz2 : S2.size = GZ.length + j := by rw [hS2, dStr_size, List.length_append, List.length_replicate]
            rw [← hS2] at a2 DC2
            have HS2 := Lib.hid hS2
            obtain ⟨CJ, hCJ⟩ : ∃ CJ, CJ = C + j := ⟨_, rfl⟩
            rw [← hCJ] at DC2
            have HCJ := Lib.hid hCJ
            clear hS2
            go_wp2_with fail
            clear a0 a1 a2
            (with_reducible refine (DC2.out _).mono ?_)
            rintro e W5 ⟨rfl, hb5⟩
            have hz5 := hb5.size
            obtain ⟨a0, a1, a2⟩ := HCA.out.keep hb5 (by omega)
            have HA5 := Lib.hid (HCA.out.keep hb5 (by omega))
            have HR5 := Lib.hid (HCR.out.keep hb5 (by omega))
            have hfa5 := frozen_keep HFA.out hb5 (by omega)
            have HFA5 := Lib.hid hfa5
            have HFR5 := Lib.hid (frozen_keep HFR.out hb5 (by omega))
            have HW5 := Lib.hid (HW.out.trans (hb5.mono HW.out.size))
            have hzw5 : w.heap.size + 2 ≤ W5.heap.size := by omega
            rw [← HS2.out] at a2
            clear hb5 hz5 hzw
            by_cases hlt : CJ < least
            · have g1 : (CJ : Int) < (least : Int) := by omega
              have g6 : ¬ 9223372036854775807 < S2.size + 1 := by omega
              have g7 : ¬ 9223372036854775807 < GZ.length + j + 1 := by omega
              have HX : Hid (S2 ++ (⟨#[48]⟩ : ByteArray) = dStr (GZ ++ List.replicate (j + 1) 0)) := by
                show _ = _
                rw [HS2.out, show (⟨#[48]⟩ : ByteArray) = dStr [0] from rfl, dStr_append, List.append_assoc, List.replicate_succ']
              have HZ5 := Lib.hid hzw5
              have HZ2 := Lib.hid hz2
              clear hzw5
              go_wp2
              go_roundw
              case rel =>
                refine ⟨j + 1, by omega, ?_, ?_, ?_, ?_, HW5.out.setCell (p := ⟨w.heap.size, 2, none⟩) (Nat.le_refl _) _, by have := HZ5.out; simpa [World.setCell] using this⟩
                · rw [← HX.out]
                  exact ⟨cell_set_far _ _ _ _ _ _ (by decide) HA5.out.1, cell_set_far _ _ _ _ _ _ (by decide) HA5.out.2.1, cell_set_same _ _ _ _ HA5.out.2.2⟩
                · exact ⟨(World.cell?_setCell_other _ _ _ _ (fun e => by have := congrArg Addr.block e; simp at this)).trans HR5.out.1, (World.cell?_setCell_other _ _ _ _ (fun e => by have := congrArg Addr.block e; simp at this)).trans HR5.out.2.1, (World.cell?_setCell_other _ _ _ _ (fun e => by have := congrArg Addr.block e; simp at this)).trans HR5.out.2.2⟩
                · intro i; simpa using HFA5.out i
                · intro i; simpa using HFR5.out i
              case measure =>
                unfold cellSz
                rw [cell_set_same _ _ _ _ HA5.out.2.2, HCA.out.2.2]
                show 1000 - (S2 ++ (⟨#[48]⟩ : ByteArray)).size < 1000 - (dStr (GZ ++ List.replicate j 0)).size
                rw [HX.out, dStr_size, dStr_size]
                simp
                omega
            · have g1 : ¬ (CJ : Int) < (least : Int) := by omega
              have SX : Hid (S2 = dStr (GZ ++ List.replicate (least - C) 0)) := by
                show _ = _
                rw [HS2.out, show j = least - C by omega]
              go_wp2_with fail
              clear a0 a1 a2
              (with_reducible refine (DBD.out _ ?_).mono ?_)
              · exact SX.out
              rintro e W6 ⟨rfl, hb6⟩
              obtain ⟨r0, r1, r2⟩ := HR5.out.keep hb6 (by omega)
              have z0 := frozen_keep HFR5.out hb6 (by omega)
              obtain ⟨e0, e1, e2⟩ := res_cells r0 r1 r2 (.bool zn) (.string zi) (.string zf)
              have HB6 := Lib.hid (HW5.out.trans (hb6.mono HW5.out.size))
              clear hb6
              go_wp2
              exact bodyPost_ret (v := .tuple #[.agg #[.bool zn, .string zi, .string zf], .int .i64 c]) (by simp [results, Try.results28, go_sem, e0, e1, e2]) rfl ⟨rfl, res_below HB6.out (by omega) _ _ _⟩
end Go.Proofs.Ytcdmanhhddcmcaa
