/- Significant of the program. -/
import Derived.Test.YtcdmanhhddcmcaaRgA
import Derived.Deep.RegionHeld3
namespace Go.Proofs.Ytcdmanhhddcmcaa
open Go.RowKit
attribute [local go_sem ↓] Go.wp_at_zero Go.wp_at_succ

set_option maxHeartbeats 4000000 in
set_option maxRecDepth 100000 in
theorem sg_bad (an : Bool) (ai af : ByteArray) (mode least most : Int) (ec : Int) (w : World) (H1 : (∀ wx : World, Calls Try.prog 55 #[(.agg #[.bool an, .string ai, .string af]), .int .i64 mode, .int .i64 1, .int .i64 least, .int .i64 most] wx fun e w' => e = .returned (.int .i64 ec) ∧ Below wx.heap.size wx w')) (he : (ec != 0) = true) :
    Calls Try.prog 27 #[(.agg #[.bool an, .string ai, .string af]), .int .i64 mode, .int .i64 least, .int .i64 most] w fun e w' => e = .returned (.tuple #[.agg #[.bool false, .string ⟨#[]⟩, .string ⟨#[]⟩], .int .i64 ec]) ∧ Below w.heap.size w w' := by
  have D1 := Lib.hid H1
  clear H1
  go_enter Try.func27, Try.ntmps27
  go_wp2_with fail
  obtain ⟨W0, hW0⟩ : ∃ W0, W0 = ((w.alloc (.cells #[.bool an, .string ai, .string af] 23)).alloc (.cells #[.bool false, .string ⟨#[]⟩, .string ⟨#[]⟩] 23)) := ⟨_, rfl⟩
  obtain ⟨hB, hz, C0, C1, FL⟩ : Below w.heap.size w W0 ∧ w.heap.size + 2 ≤ W0.heap.size ∧ Cells3 W0 w.heap.size (.bool an) (.string ai) (.string af) ∧ Cells3 W0 (w.heap.size + 1) (.bool false) (.string ⟨#[]⟩) (.string ⟨#[]⟩) ∧ ∀ i, W0.frozen? ⟨(w.heap.size + 1), i, none⟩ = false := by rw [hW0]; exact ⟨below_two w _ _, two_boxes w _ _ _ _ _ _ _⟩
  have z0 : w.heap.size + 1 ≤ W0.heap.size := by omega
  have z1 : (w.heap.size + 1) + 1 ≤ W0.heap.size := by omega
  rw [← hW0]
  have HB := Lib.hid hB
  have F1 := Lib.hid FL
  clear hW0 hB hz FL
  (with_reducible refine (D1.out _).mono ?_)
  rintro e V1 ⟨rfl, hb⟩
  replace F1 := Lib.hid (frozen_keep F1.out hb (by omega))
  replace C0 := C0.keep hb (by omega)
  replace z0 : w.heap.size + 1 ≤ V1.heap.size := by have := hb.size; omega
  replace C1 := C1.keep hb (by omega)
  replace z1 : (w.heap.size + 1) + 1 ≤ V1.heap.size := by have := hb.size; omega
  replace HB := Lib.hid (HB.out.trans (hb.mono HB.out.size))
  clear hb
  have o00 := C0.1
  have o10 := C1.1
  have o01 := C0.2.1
  have o02 := C0.2.2
  have o11 := C1.2.1
  have o12 := C1.2.2
  obtain ⟨r0, r1, r2⟩ := C1
  have z0 := F1.out
  obtain ⟨e0, e1, e2⟩ := res_cells r0 r1 r2 (.bool false) (.string ⟨#[]⟩) (.string ⟨#[]⟩)
  go_wp2
  exact bodyPost_ret (v := .tuple #[.agg #[.bool false, .string ⟨#[]⟩, .string ⟨#[]⟩], .int .i64 ec]) (by simp [results, Try.results27, go_sem, e0, e1, e2]) rfl ⟨rfl, res_below HB.out (by omega) _ _ _⟩

set_option maxHeartbeats 4000000 in
set_option maxRecDepth 100000 in
theorem sg_plain (an : Bool) (ai af : ByteArray) (mode least most : Int) (s : Int) (xn : Bool) (xi xf : ByteArray) (c : Int) (w : World) (H1 : (∀ wx : World, Calls Try.prog 55 #[(.agg #[.bool an, .string ai, .string af]), .int .i64 mode, .int .i64 1, .int .i64 least, .int .i64 most] wx fun e w' => e = .returned (.int .i64 0) ∧ Below wx.heap.size wx w')) (H2 : (∀ wx : World, Calls Try.prog 56 #[(.agg #[.bool an, .string ai, .string af])] wx fun e w' => e = .returned (.int .i64 s) ∧ Below wx.heap.size wx w')) (H9 : (∀ (wx : World) {pI : Int}, pI = (af.size : Int) + least - s → Calls Try.prog 59 #[(.agg #[.bool an, .string ai, .string af]), .int .i64 pI] wx fun r w' => r = .returned (.tuple #[(.agg #[.bool xn, .string xi, .string xf]), .int .i64 c]) ∧ Below wx.heap.size wx w')) (hs : ¬ 0 < s - most) (b0 : 0 ≤ s) (b1 : s ≤ 1000) (b2 : 0 ≤ most) (b3 : most ≤ 40) (b4 : 0 ≤ least) (b5 : least ≤ 40) (b6 : ai.size + af.size ≤ 1000) :
    Calls Try.prog 27 #[(.agg #[.bool an, .string ai, .string af]), .int .i64 mode, .int .i64 least, .int .i64 most] w fun e w' => e = .returned (.tuple #[(.agg #[.bool xn, .string xi, .string xf]), .int .i64 c]) ∧ Below w.heap.size w w' := by
  have D1 := Lib.hid H1
  have D2 := Lib.hid H2
  have D9 := Lib.hid H9
  clear H1 H2 H9
  have q0 : ((0 : Int) != 0) = false := by decide
  have wz1 : IntKind.i64.wrap (s - most) = s - most := IntWalk.i64_in _ (by omega)
  have q1 : decide (0 < s - most) = false := decide_eq_false hs
  have wz2 : IntKind.i64.wrap ((af.size : Int) + least) = (af.size : Int) + least := IntWalk.i64_in _ (by omega)
  have wz3 : IntKind.i64.wrap ((af.size : Int) + least - s) = (af.size : Int) + least - s := IntWalk.i64_in _ (by omega)
  go_enter Try.func27, Try.ntmps27
  go_wp2_with fail
  obtain ⟨W0, hW0⟩ : ∃ W0, W0 = ((w.alloc (.cells #[.bool an, .string ai, .string af] 23)).alloc (.cells #[.bool false, .string ⟨#[]⟩, .string ⟨#[]⟩] 23)) := ⟨_, rfl⟩
  obtain ⟨hB, hz, C0, C1, FL⟩ : Below w.heap.size w W0 ∧ w.heap.size + 2 ≤ W0.heap.size ∧ Cells3 W0 w.heap.size (.bool an) (.string ai) (.string af) ∧ Cells3 W0 (w.heap.size + 1) (.bool false) (.string ⟨#[]⟩) (.string ⟨#[]⟩) ∧ ∀ i, W0.frozen? ⟨(w.heap.size + 1), i, none⟩ = false := by rw [hW0]; exact ⟨below_two w _ _, two_boxes w _ _ _ _ _ _ _⟩
  have z0 : w.heap.size + 1 ≤ W0.heap.size := by omega
  have z1 : (w.heap.size + 1) + 1 ≤ W0.heap.size := by omega
  rw [← hW0]
  have HB := Lib.hid hB
  have F1 := Lib.hid FL
  have F0 := Lib.hid (show ∀ i, W0.frozen? ⟨w.heap.size, i, none⟩ = false by rw [hW0]; exact frozen_keep (one_box w (.bool an) (.string ai) (.string af) 23).2.2 ((Below.refl _ _).alloc (Nat.le_refl _) _) (by simp))
  clear hW0 hB hz FL
  (with_reducible refine (D1.out _).mono ?_)
  rintro e V1 ⟨rfl, hb⟩
  replace F0 := Lib.hid (frozen_keep F0.out hb (by omega))
  replace F1 := Lib.hid (frozen_keep F1.out hb (by omega))
  replace C0 := C0.keep hb (by omega)
  replace z0 : w.heap.size + 1 ≤ V1.heap.size := by have := hb.size; omega
  replace C1 := C1.keep hb (by omega)
  replace z1 : (w.heap.size + 1) + 1 ≤ V1.heap.size := by have := hb.size; omega
  replace HB := Lib.hid (HB.out.trans (hb.mono HB.out.size))
  clear hb
  have o00 := C0.1
  have o10 := C1.1
  have o01 := C0.2.1
  have o02 := C0.2.2
  have o11 := C1.2.1
  have o12 := C1.2.2
  go_wp2_with fail
  clear o00 o01 o02 o10 o11 o12
  (with_reducible refine (D2.out _).mono ?_)
  rintro e V2 ⟨rfl, hb⟩
  replace F0 := Lib.hid (frozen_keep F0.out hb (by omega))
  replace F1 := Lib.hid (frozen_keep F1.out hb (by omega))
  replace C0 := C0.keep hb (by omega)
  replace z0 : w.heap.size + 1 ≤ V2.heap.size := by have := hb.size; omega
  replace C1 := C1.keep hb (by omega)
  replace z1 : (w.heap.size + 1) + 1 ≤ V2.heap.size := by have := hb.size; omega
  replace HB := Lib.hid (HB.out.trans (hb.mono HB.out.size))
  clear hb
  have o00 := C0.1
  have o10 := C1.1
  have o01 := C0.2.1
  have o02 := C0.2.2
  have o11 := C1.2.1
  have o12 := C1.2.2
  go_upto_region 10 with fail
  clear o00 o01 o02 o10 o11 o12
  have Ch := Lib.hid C0
  have Cr := Lib.hid C1
  have Fr := F1
  obtain ⟨s0, s1, s2⟩ := C0
  go_region_held3 (fun w' => w'.cell? ⟨w.heap.size, 0, none⟩ = some (.bool an) ∧ w'.cell? ⟨w.heap.size, 1, none⟩ = some (.string ai) ∧ w'.cell? ⟨w.heap.size, 2, none⟩ = some (.string af))
    (first
      | exact ⟨s0, s1, s2⟩
      | (have t := Ch.out.keep hb4 (by omega); exact ⟨t.1, t.2.1, t.2.2⟩)
      | (have t := Ch.out.keep hb4 (by omega); exact ⟨(far3 _ _ _ _ _ _ _ (by omega)).trans t.1, (far3 _ _ _ _ _ _ _ (by omega)).trans t.2.1, (far3 _ _ _ _ _ _ _ (by omega)).trans t.2.2⟩)
      | (have t := Ch.out.keep (undrew hbA) (by omega); exact ⟨t.1, t.2.1, t.2.2⟩)
      | go_keep)
    (first
      | (go_at_call 56; (with_reducible refine (D2.out _).mono ?_); rintro e wA ⟨rfl, hbA⟩)
      | (go_at_call 59; (with_reducible refine (D9.out _ ?_).mono ?_); (focus first | rfl | omega); rintro e wB ⟨rfl, hbB⟩
         have hb4 : Below V2.heap.size V2 wB := (undrew hbA).trans (hbB.mono (undrew hbA).size)
         obtain ⟨r0, r1, r2⟩ := Cr.out.keep hb4 (by omega)
         have zf := frozen_keep Fr.out hb4 (by omega)))
  have B6 := Lib.hid (HB.out.trans (hb4.mono HB.out.size))
  obtain ⟨e0, e1, e2⟩ := res_cells r0 r1 r2 (.bool xn) (.string xi) (.string xf)
  go_wp2
  exact bodyPost_ret (v := .tuple #[.agg #[.bool xn, .string xi, .string xf], .int .i64 c]) (by simp [results, Try.results27, go_sem, e0, e1, e2]) rfl ⟨rfl, res_below B6.out (by omega) _ _ _⟩
end Go.Proofs.Ytcdmanhhddcmcaa

namespace Go.Proofs.Ytcdmanhhddcmcaa
open Go.RowKit
attribute [local go_sem ↓] Go.wp_at_zero Go.wp_at_succ
theorem rdrew_cell (V : World) (p : Addr) : V.drew.cell? p = V.cell? p := rfl
theorem ralloc_far (W : World) (b i : Nat) (o : Obj) (h : b < W.heap.size) : (W.alloc o).cell? ⟨b, i, none⟩ = W.cell? ⟨b, i, none⟩ := ((Below.refl W.heap.size W).alloc (Nat.le_refl _) o).cell (p := ⟨b, i, none⟩) h
theorem rbelow_via {V X w' : World} (h : Below X.heap.size X w') (h1 : Below V.heap.size V X) : Below V.heap.size V w' := h1.trans (h.mono h1.size)

set_option maxHeartbeats 8000000 in
set_option maxRecDepth 100000 in
theorem sg_err (an : Bool) (ai af : ByteArray) (mode least most s : Int) (tn : Bool) (ti tf : ByteArray) (yn : Bool) (yi yf : ByteArray) (c : Int)
    (H1 : ∀ wx : World, Calls Try.prog 55 #[.agg #[.bool an, .string ai, .string af], .int .i64 mode, .int .i64 1, .int .i64 least, .int .i64 most] wx fun e w' => e = .returned (.int .i64 0) ∧ Below wx.heap.size wx w')
    (H2 : ∀ wx : World, Calls Try.prog 56 #[.agg #[.bool an, .string ai, .string af]] wx fun e w' => e = .returned (.int .i64 s) ∧ Below wx.heap.size wx w')
    (H3 : ∀ (wx : World) {kI : Int}, kI = s - most - (af.size : Int) → Calls Try.prog 58 #[.int .i64 kI] wx fun r w' => r = .returned (.agg #[.bool tn, .string ti, .string tf]) ∧ Below wx.heap.size wx w')
    (H4 : ∀ wx : World, Calls Try.prog 57 #[.agg #[.bool an, .string ai, .string af], .int .i64 mode, .agg #[.bool tn, .string ti, .string tf]] wx fun e w' => e = .returned (.tuple #[.agg #[.bool yn, .string yi, .string yf], .int .i64 c]) ∧ Below wx.heap.size wx w') (he : (c != 0) = true) (hs : 0 < s - most) (b0 : 0 ≤ s) (b1 : s ≤ 1000) (b2 : 0 ≤ most) (b3 : most ≤ 40) (b6 : ai.size + af.size ≤ 1000) (w : World) :
    Calls Try.prog 27 #[.agg #[.bool an, .string ai, .string af], .int .i64 mode, .int .i64 least, .int .i64 most] w fun e w' => e = .returned (.tuple #[.agg #[.bool false, .string ⟨#[]⟩, .string ⟨#[]⟩], .int .i64 c]) ∧ Below w.heap.size w w' := by
  have wz1 : IntKind.i64.wrap (s - most) = s - most := IntWalk.i64_in _ (by omega)
  have q1 : decide (0 < s - most) = true := decide_eq_true hs
  have wz4 : IntKind.i64.wrap (s - most - (af.size : Int)) = s - most - (af.size : Int) := IntWalk.i64_in _ (by omega)
  have D1 := Lib.hid H1
  have D2 := Lib.hid H2
  have D3 := Lib.hid H3
  have D4 := Lib.hid H4
  clear H1 H2 H3 H4
  go_enter Try.func27, Try.ntmps27
  go_wp2_with fail
  obtain ⟨W0, hW0⟩ : ∃ W0, W0 = (w.alloc (.cells #[.bool an, .string ai, .string af] 23)).alloc (.cells #[.bool false, .string ⟨#[]⟩, .string ⟨#[]⟩] 23) := ⟨_, rfl⟩
  obtain ⟨hB, hz, C0, C1, FL⟩ : Below w.heap.size w W0 ∧ w.heap.size + 2 ≤ W0.heap.size ∧ Cells3 W0 w.heap.size (.bool an) (.string ai) (.string af) ∧ Cells3 W0 (w.heap.size + 1) (.bool false) (.string ⟨#[]⟩) (.string ⟨#[]⟩) ∧ ∀ i, W0.frozen? ⟨w.heap.size + 1, i, none⟩ = false := by rw [hW0]; exact ⟨below_two w _ _, two_boxes w _ _ _ _ _ _ _⟩
  have FA : ∀ i, W0.frozen? ⟨w.heap.size, i, none⟩ = false := by rw [hW0]; exact frozen_keep (one_box w (.bool an) (.string ai) (.string af) 23).2.2 ((Below.refl _ _).alloc (Nat.le_refl _) _) (by simp)
  rw [← hW0]
  clear hW0
  (with_reducible refine (D1.out _).mono ?_)
  rintro e V1 ⟨rfl, hb⟩
  have h1 := hb.size
  obtain ⟨o0, o1, o2⟩ := C0.keep hb (by omega)
  have K0 := Lib.hid (C0.keep hb (by omega))
  have K1 := Lib.hid (C1.keep hb (by omega))
  have G0 := Lib.hid (frozen_keep FA hb (by omega))
  have G1 := Lib.hid (frozen_keep FL hb (by omega))
  have HB := Lib.hid (hB.trans (hb.mono hB.size))
  clear hb hB C0 C1 FL FA
  go_wp2_with fail
  clear o0 o1 o2
  (with_reducible refine (D2.out _).mono ?_)
  rintro e V ⟨rfl, hb⟩
  have h2 := hb.size
  obtain ⟨o0, o1, o2⟩ := K0.out.keep hb (by omega)
  have CA := Lib.hid (K0.out.keep hb (by omega))
  have CR := Lib.hid (K1.out.keep hb (by omega))
  have GA := Lib.hid (frozen_keep G0.out hb (by omega))
  have GR := Lib.hid (frozen_keep G1.out hb (by omega))
  have HV := Lib.hid (HB.out.trans (hb.mono HB.out.size))
  have hzV : w.heap.size + 2 ≤ V.heap.size := by omega
  clear hb K0 K1 G0 G1 HB
  go_wp2_with fail
  go_region_held3 (fun w' => w'.cell? ⟨w.heap.size, 0, none⟩ = some (.bool an) ∧ w'.cell? ⟨w.heap.size, 1, none⟩ = some (.string ai) ∧ w'.cell? ⟨w.heap.size, 2, none⟩ = some (.string af))
    (first
      | (with_reducible exact ⟨o0, o1, o2⟩)
      | (with_reducible exact ⟨(rdrew_cell _ _).trans o0, (rdrew_cell _ _).trans o1, (rdrew_cell _ _).trans o2⟩)
      | (have t := CA.out.keep hR (by omega); obtain ⟨t0, t1, t2⟩ := t; with_reducible exact ⟨t0, t1, t2⟩)
      | (have t := CA.out.keep hA (by omega); obtain ⟨t0, t1, t2⟩ := t; with_reducible exact ⟨t0, t1, t2⟩)
      | (have t := CA.out.keep hR (by omega); obtain ⟨t0, t1, t2⟩ := t; have sA := hA.size; with_reducible exact ⟨(rdrew_cell _ _).trans ((far3 _ _ _ _ _ _ _ (by omega)).trans t0), (rdrew_cell _ _).trans ((far3 _ _ _ _ _ _ _ (by omega)).trans t1), (rdrew_cell _ _).trans ((far3 _ _ _ _ _ _ _ (by omega)).trans t2)⟩)
      | (have t := CA.out.keep hR (by omega); obtain ⟨t0, t1, t2⟩ := t; have sA := hA.size; with_reducible exact ⟨(far3 _ _ _ _ _ _ _ (by omega)).trans t0, (far3 _ _ _ _ _ _ _ (by omega)).trans t1, (far3 _ _ _ _ _ _ _ (by omega)).trans t2⟩)
      | (have t := CA.out.keep hR (by omega); obtain ⟨t0, t1, t2⟩ := t; have sR := hR.size; with_reducible exact ⟨(ralloc_far _ _ _ _ (by omega)).trans t0, (ralloc_far _ _ _ _ (by omega)).trans t1, (ralloc_far _ _ _ _ (by omega)).trans t2⟩)
      | go_keep)
    (first
      | (go_at_call 58; (with_reducible refine (D3.out _ ?_).mono ?_); (focus first | rfl | omega); rintro e wA ⟨rfl, hbA⟩
         have hA : Below V.heap.size V wA := rbelow_via hbA (by first | exact drew1 (Below.refl _ _) | exact (drew1 (Below.refl _ _)).alloc (Nat.le_refl _) _ | exact drew1 ((Below.refl _ _).alloc (Nat.le_refl _) _))
         first
           | (have kC : Cells3 wA V.heap.size (.bool false) (.string ⟨#[]⟩) (.string ⟨#[]⟩) := ⟨(hbA.cell (p := ⟨V.heap.size, 0, none⟩) (by simp)).trans (by simp), (hbA.cell (p := ⟨V.heap.size, 1, none⟩) (by simp)).trans (by simp), (hbA.cell (p := ⟨V.heap.size, 2, none⟩) (by simp)).trans (by simp)⟩
              have fC : ∀ i, wA.frozen? ⟨V.heap.size, i, none⟩ = false := fun i => (hbA.frozen (p := ⟨V.heap.size, i, none⟩) (by simp)).trans (by simp)
              have sC : V.heap.size + 1 ≤ wA.heap.size := by have := hbA.size; simp at this; omega)
           | skip)
      | (go_at_call 57; (with_reducible refine (D4.out _).mono ?_); rintro e wR ⟨rfl, hbR⟩
         have hR : Below V.heap.size V wR := by first | exact hA.trans (hbR.mono hA.size) | exact (hA.alloc hA.size _).trans (hbR.mono (by have := hA.size; simp; omega))
         first
           | (obtain ⟨k0, k1, k2⟩ := kC.keep hbR (by omega)
              have kF := frozen_keep fC hbR (by omega))
           | (have k0 : wR.cell? ⟨wA.heap.size, 0, none⟩ = some (.bool false) := (hbR.cell (p := ⟨wA.heap.size, 0, none⟩) (by simp)).trans (by simp)
              have k1 : wR.cell? ⟨wA.heap.size, 1, none⟩ = some (.string ⟨#[]⟩) := (hbR.cell (p := ⟨wA.heap.size, 1, none⟩) (by simp)).trans (by simp)
              have k2 : wR.cell? ⟨wA.heap.size, 2, none⟩ = some (.string ⟨#[]⟩) := (hbR.cell (p := ⟨wA.heap.size, 2, none⟩) (by simp)).trans (by simp)
              have kF : ∀ i, wR.frozen? ⟨wA.heap.size, i, none⟩ = false := fun i => (hbR.frozen (p := ⟨wA.heap.size, i, none⟩) (by simp)).trans (by simp))
           | skip))
  · obtain ⟨F, hF⟩ : ∃ F, F = wR.alloc (.cells #[.bool yn, .string yi, .string yf] 23) := ⟨_, rfl⟩
    rw [← hF]
    have sA := hA.size
    have sR := hR.size
    have bR := HV.out.trans (hR.mono HV.out.size)
    have ta := CA.out.keep hR (by omega)
    have tr := CR.out.keep hR (by omega)
    have fa := frozen_keep GA.out hR (by omega)
    have fr := frozen_keep GR.out hR (by omega)
    have bx := (Below.refl wR.heap.size wR).alloc (Nat.le_refl _) (.cells #[.bool yn, .string yi, .string yf] 23)
    have FAc : Cells3 F w.heap.size (.bool an) (.string ai) (.string af) := by rw [hF]; exact ta.keep bx (by omega)
    have FRc : Cells3 F (w.heap.size + 1) (.bool false) (.string ⟨#[]⟩) (.string ⟨#[]⟩) := by rw [hF]; exact tr.keep bx (by omega)
    have FAf : ∀ i, F.frozen? ⟨w.heap.size, i, none⟩ = false := by rw [hF]; exact frozen_keep fa bx (by omega)
    have FRf : ∀ i, F.frozen? ⟨w.heap.size + 1, i, none⟩ = false := by rw [hF]; exact frozen_keep fr bx (by omega)
    have FY : Cells3 F wR.heap.size (.bool yn) (.string yi) (.string yf) := by rw [hF]; exact (one_box _ _ _ _ _).2.1
    have bF : Below w.heap.size w F := by rw [hF]; exact bR.alloc bR.size _
    have FS : wR.heap.size + 1 ≤ F.heap.size := by rw [hF]; simp
    clear bx
    have bF' := Lib.hid bF
    clear hF ta tr fa fr bR hbA hbR hA hR o0 o1 o2 FAc FAf FY bF FS
    obtain ⟨r0, r1, r2⟩ := FRc
    obtain ⟨e0, e1, e2⟩ := res_cells r0 r1 r2 (.bool false) (.string ⟨#[]⟩) (.string ⟨#[]⟩)
    go_wp2
    exact bodyPost_ret (v := .tuple #[.agg #[.bool false, .string ⟨#[]⟩, .string ⟨#[]⟩], .int .i64 c]) (by simp [results, Try.results27, go_sem, e0, e1, e2]) rfl ⟨rfl, res_below bF'.out (by omega) _ _ _⟩
  · obtain ⟨F, hF⟩ : ∃ F, F = ((wR.setCell ⟨wA.heap.size, 0, none⟩ (.bool yn)).setCell ⟨wA.heap.size, 1, none⟩ (.string yi)).setCell ⟨wA.heap.size, 2, none⟩ (.string yf) := ⟨_, rfl⟩
    rw [← hF]
    have sA := hA.size
    have sR := hR.size
    have bR := HV.out.trans (hR.mono HV.out.size)
    have ta := CA.out.keep hR (by omega)
    have tr := CR.out.keep hR (by omega)
    have fa := frozen_keep GA.out hR (by omega)
    have fr := frozen_keep GR.out hR (by omega)
    have FAc : Cells3 F w.heap.size (.bool an) (.string ai) (.string af) := by rw [hF]; exact ⟨(far3 _ _ _ _ _ _ _ (by omega)).trans ta.1, (far3 _ _ _ _ _ _ _ (by omega)).trans ta.2.1, (far3 _ _ _ _ _ _ _ (by omega)).trans ta.2.2⟩
    have FRc : Cells3 F (w.heap.size + 1) (.bool false) (.string ⟨#[]⟩) (.string ⟨#[]⟩) := by rw [hF]; exact ⟨(far3 _ _ _ _ _ _ _ (by omega)).trans tr.1, (far3 _ _ _ _ _ _ _ (by omega)).trans tr.2.1, (far3 _ _ _ _ _ _ _ (by omega)).trans tr.2.2⟩
    have FAf : ∀ i, F.frozen? ⟨w.heap.size, i, none⟩ = false := by rw [hF]; intro i; simpa using fa i
    have FRf : ∀ i, F.frozen? ⟨w.heap.size + 1, i, none⟩ = false := by rw [hF]; intro i; simpa using fr i
    have FY : Cells3 F wA.heap.size (.bool yn) (.string yi) (.string yf) := by rw [hF]; obtain ⟨e0, e1, e2⟩ := res_cells k0 k1 k2 (.bool yn) (.string yi) (.string yf); exact ⟨cell_set_far _ _ _ _ _ _ (by decide) (cell_set_far _ _ _ _ _ _ (by decide) e0), cell_set_far _ _ _ _ _ _ (by decide) e1, e2⟩
    have bF : Below w.heap.size w F := by rw [hF]; exact res_below bR (by omega) _ _ _
    have FS : wA.heap.size + 1 ≤ F.heap.size := by rw [hF]; have := hbR.size; simp [World.setCell] at *; omega
    clear k0 k1 k2 kF
    have bF' := Lib.hid bF
    clear hF ta tr fa fr bR hbA hbR hA hR o0 o1 o2 FAc FAf FY bF FS
    obtain ⟨r0, r1, r2⟩ := FRc
    obtain ⟨e0, e1, e2⟩ := res_cells r0 r1 r2 (.bool false) (.string ⟨#[]⟩) (.string ⟨#[]⟩)
    go_wp2
    exact bodyPost_ret (v := .tuple #[.agg #[.bool false, .string ⟨#[]⟩, .string ⟨#[]⟩], .int .i64 c]) (by simp [results, Try.results27, go_sem, e0, e1, e2]) rfl ⟨rfl, res_below bF'.out (by omega) _ _ _⟩
  · obtain ⟨F, hF⟩ : ∃ F, F = ((wR.setCell ⟨V.heap.size, 0, none⟩ (.bool yn)).setCell ⟨V.heap.size, 1, none⟩ (.string yi)).setCell ⟨V.heap.size, 2, none⟩ (.string yf) := ⟨_, rfl⟩
    rw [← hF]
    have sA := hA.size
    have sR := hR.size
    have bR := HV.out.trans (hR.mono HV.out.size)
    have ta := CA.out.keep hR (by omega)
    have tr := CR.out.keep hR (by omega)
    have fa := frozen_keep GA.out hR (by omega)
    have fr := frozen_keep GR.out hR (by omega)
    have FAc : Cells3 F w.heap.size (.bool an) (.string ai) (.string af) := by rw [hF]; exact ⟨(far3 _ _ _ _ _ _ _ (by omega)).trans ta.1, (far3 _ _ _ _ _ _ _ (by omega)).trans ta.2.1, (far3 _ _ _ _ _ _ _ (by omega)).trans ta.2.2⟩
    have FRc : Cells3 F (w.heap.size + 1) (.bool false) (.string ⟨#[]⟩) (.string ⟨#[]⟩) := by rw [hF]; exact ⟨(far3 _ _ _ _ _ _ _ (by omega)).trans tr.1, (far3 _ _ _ _ _ _ _ (by omega)).trans tr.2.1, (far3 _ _ _ _ _ _ _ (by omega)).trans tr.2.2⟩
    have FAf : ∀ i, F.frozen? ⟨w.heap.size, i, none⟩ = false := by rw [hF]; intro i; simpa using fa i
    have FRf : ∀ i, F.frozen? ⟨w.heap.size + 1, i, none⟩ = false := by rw [hF]; intro i; simpa using fr i
    have FY : Cells3 F V.heap.size (.bool yn) (.string yi) (.string yf) := by rw [hF]; obtain ⟨e0, e1, e2⟩ := res_cells k0 k1 k2 (.bool yn) (.string yi) (.string yf); exact ⟨cell_set_far _ _ _ _ _ _ (by decide) (cell_set_far _ _ _ _ _ _ (by decide) e0), cell_set_far _ _ _ _ _ _ (by decide) e1, e2⟩
    have bF : Below w.heap.size w F := by rw [hF]; exact res_below bR (by omega) _ _ _
    have FS : V.heap.size + 1 ≤ F.heap.size := by rw [hF]; have := hbR.size; simp [World.setCell] at *; omega
    clear k0 k1 k2 kF
    have bF' := Lib.hid bF
    clear hF ta tr fa fr bR hbA hbR hA hR o0 o1 o2 FAc FAf FY bF FS
    obtain ⟨r0, r1, r2⟩ := FRc
    obtain ⟨e0, e1, e2⟩ := res_cells r0 r1 r2 (.bool false) (.string ⟨#[]⟩) (.string ⟨#[]⟩)
    go_wp2
    exact bodyPost_ret (v := .tuple #[.agg #[.bool false, .string ⟨#[]⟩, .string ⟨#[]⟩], .int .i64 c]) (by simp [results, Try.results27, go_sem, e0, e1, e2]) rfl ⟨rfl, res_below bF'.out (by omega) _ _ _⟩

set_option maxHeartbeats 8000000 in
set_option maxRecDepth 100000 in
theorem sg_round (an : Bool) (ai af : ByteArray) (mode least most s : Int) (tn : Bool) (ti tf : ByteArray) (yn : Bool) (yi yf : ByteArray) (s2 : Int) (xn : Bool) (xi xf : ByteArray) (c : Int)
    (H1 : ∀ wx : World, Calls Try.prog 55 #[.agg #[.bool an, .string ai, .string af], .int .i64 mode, .int .i64 1, .int .i64 least, .int .i64 most] wx fun e w' => e = .returned (.int .i64 0) ∧ Below wx.heap.size wx w')
    (H2 : ∀ wx : World, Calls Try.prog 56 #[.agg #[.bool an, .string ai, .string af]] wx fun e w' => e = .returned (.int .i64 s) ∧ Below wx.heap.size wx w')
    (H3 : ∀ (wx : World) {kI : Int}, kI = s - most - (af.size : Int) → Calls Try.prog 58 #[.int .i64 kI] wx fun r w' => r = .returned (.agg #[.bool tn, .string ti, .string tf]) ∧ Below wx.heap.size wx w')
    (H4 : ∀ wx : World, Calls Try.prog 57 #[.agg #[.bool an, .string ai, .string af], .int .i64 mode, .agg #[.bool tn, .string ti, .string tf]] wx fun e w' => e = .returned (.tuple #[.agg #[.bool yn, .string yi, .string yf], .int .i64 0]) ∧ Below wx.heap.size wx w')
    (H5 : ∀ wx : World, Calls Try.prog 56 #[.agg #[.bool yn, .string yi, .string yf]] wx fun e w' => e = .returned (.int .i64 s2) ∧ Below wx.heap.size wx w')
    (H6 : ∀ (wx : World) {pI : Int}, pI = (yf.size : Int) + least - s2 → Calls Try.prog 59 #[.agg #[.bool yn, .string yi, .string yf], .int .i64 pI] wx fun r w' => r = .returned (.tuple #[.agg #[.bool xn, .string xi, .string xf], .int .i64 c]) ∧ Below wx.heap.size wx w') (hs : 0 < s - most) (b0 : 0 ≤ s) (b1 : s ≤ 1000) (b2 : 0 ≤ most) (b3 : most ≤ 40) (b4 : 0 ≤ least) (b5 : least ≤ 40) (b6 : ai.size + af.size ≤ 1000) (b7 : yf.size ≤ 1000) (b8 : 0 ≤ s2) (b9 : s2 ≤ 1000) (w : World) :
    Calls Try.prog 27 #[.agg #[.bool an, .string ai, .string af], .int .i64 mode, .int .i64 least, .int .i64 most] w fun e w' => e = .returned (.tuple #[.agg #[.bool xn, .string xi, .string xf], .int .i64 c]) ∧ Below w.heap.size w w' := by
  have wz1 : IntKind.i64.wrap (s - most) = s - most := IntWalk.i64_in _ (by omega)
  have q1 : decide (0 < s - most) = true := decide_eq_true hs
  have wz4 : IntKind.i64.wrap (s - most - (af.size : Int)) = s - most - (af.size : Int) := IntWalk.i64_in _ (by omega)
  have wz2 : IntKind.i64.wrap ((yf.size : Int) + least) = (yf.size : Int) + least := IntWalk.i64_in _ (by omega)
  have wz3 : IntKind.i64.wrap ((yf.size : Int) + least - s2) = (yf.size : Int) + least - s2 := IntWalk.i64_in _ (by omega)
  have D1 := Lib.hid H1
  have D2 := Lib.hid H2
  have D3 := Lib.hid H3
  have D4 := Lib.hid H4
  have D5 := Lib.hid H5
  have D6 := Lib.hid H6
  clear H1 H2 H3 H4 H5 H6
  go_enter Try.func27, Try.ntmps27
  go_wp2_with fail
  obtain ⟨W0, hW0⟩ : ∃ W0, W0 = (w.alloc (.cells #[.bool an, .string ai, .string af] 23)).alloc (.cells #[.bool false, .string ⟨#[]⟩, .string ⟨#[]⟩] 23) := ⟨_, rfl⟩
  obtain ⟨hB, hz, C0, C1, FL⟩ : Below w.heap.size w W0 ∧ w.heap.size + 2 ≤ W0.heap.size ∧ Cells3 W0 w.heap.size (.bool an) (.string ai) (.string af) ∧ Cells3 W0 (w.heap.size + 1) (.bool false) (.string ⟨#[]⟩) (.string ⟨#[]⟩) ∧ ∀ i, W0.frozen? ⟨w.heap.size + 1, i, none⟩ = false := by rw [hW0]; exact ⟨below_two w _ _, two_boxes w _ _ _ _ _ _ _⟩
  have FA : ∀ i, W0.frozen? ⟨w.heap.size, i, none⟩ = false := by rw [hW0]; exact frozen_keep (one_box w (.bool an) (.string ai) (.string af) 23).2.2 ((Below.refl _ _).alloc (Nat.le_refl _) _) (by simp)
  rw [← hW0]
  clear hW0
  (with_reducible refine (D1.out _).mono ?_)
  rintro e V1 ⟨rfl, hb⟩
  have h1 := hb.size
  obtain ⟨o0, o1, o2⟩ := C0.keep hb (by omega)
  have K0 := Lib.hid (C0.keep hb (by omega))
  have K1 := Lib.hid (C1.keep hb (by omega))
  have G0 := Lib.hid (frozen_keep FA hb (by omega))
  have G1 := Lib.hid (frozen_keep FL hb (by omega))
  have HB := Lib.hid (hB.trans (hb.mono hB.size))
  clear hb hB C0 C1 FL FA
  go_wp2_with fail
  clear o0 o1 o2
  (with_reducible refine (D2.out _).mono ?_)
  rintro e V ⟨rfl, hb⟩
  have h2 := hb.size
  obtain ⟨o0, o1, o2⟩ := K0.out.keep hb (by omega)
  have CA := Lib.hid (K0.out.keep hb (by omega))
  have CR := Lib.hid (K1.out.keep hb (by omega))
  have GA := Lib.hid (frozen_keep G0.out hb (by omega))
  have GR := Lib.hid (frozen_keep G1.out hb (by omega))
  have HV := Lib.hid (HB.out.trans (hb.mono HB.out.size))
  have hzV : w.heap.size + 2 ≤ V.heap.size := by omega
  clear hb K0 K1 G0 G1 HB
  go_wp2_with fail
  go_region_held3 (fun w' => w'.cell? ⟨w.heap.size, 0, none⟩ = some (.bool an) ∧ w'.cell? ⟨w.heap.size, 1, none⟩ = some (.string ai) ∧ w'.cell? ⟨w.heap.size, 2, none⟩ = some (.string af))
    (first
      | (with_reducible exact ⟨o0, o1, o2⟩)
      | (with_reducible exact ⟨(rdrew_cell _ _).trans o0, (rdrew_cell _ _).trans o1, (rdrew_cell _ _).trans o2⟩)
      | (have t := CA.out.keep hR (by omega); obtain ⟨t0, t1, t2⟩ := t; with_reducible exact ⟨t0, t1, t2⟩)
      | (have t := CA.out.keep hA (by omega); obtain ⟨t0, t1, t2⟩ := t; with_reducible exact ⟨t0, t1, t2⟩)
      | (have t := CA.out.keep hR (by omega); obtain ⟨t0, t1, t2⟩ := t; have sA := hA.size; with_reducible exact ⟨(rdrew_cell _ _).trans ((far3 _ _ _ _ _ _ _ (by omega)).trans t0), (rdrew_cell _ _).trans ((far3 _ _ _ _ _ _ _ (by omega)).trans t1), (rdrew_cell _ _).trans ((far3 _ _ _ _ _ _ _ (by omega)).trans t2)⟩)
      | (have t := CA.out.keep hR (by omega); obtain ⟨t0, t1, t2⟩ := t; have sA := hA.size; with_reducible exact ⟨(far3 _ _ _ _ _ _ _ (by omega)).trans t0, (far3 _ _ _ _ _ _ _ (by omega)).trans t1, (far3 _ _ _ _ _ _ _ (by omega)).trans t2⟩)
      | (have t := CA.out.keep hR (by omega); obtain ⟨t0, t1, t2⟩ := t; have sR := hR.size; with_reducible exact ⟨(ralloc_far _ _ _ _ (by omega)).trans t0, (ralloc_far _ _ _ _ (by omega)).trans t1, (ralloc_far _ _ _ _ (by omega)).trans t2⟩)
      | go_keep)
    (first
      | (go_at_call 58; (with_reducible refine (D3.out _ ?_).mono ?_); (focus first | rfl | omega); rintro e wA ⟨rfl, hbA⟩
         have hA : Below V.heap.size V wA := rbelow_via hbA (by first | exact drew1 (Below.refl _ _) | exact (drew1 (Below.refl _ _)).alloc (Nat.le_refl _) _ | exact drew1 ((Below.refl _ _).alloc (Nat.le_refl _) _))
         first
           | (have kC : Cells3 wA V.heap.size (.bool false) (.string ⟨#[]⟩) (.string ⟨#[]⟩) := ⟨(hbA.cell (p := ⟨V.heap.size, 0, none⟩) (by simp)).trans (by simp), (hbA.cell (p := ⟨V.heap.size, 1, none⟩) (by simp)).trans (by simp), (hbA.cell (p := ⟨V.heap.size, 2, none⟩) (by simp)).trans (by simp)⟩
              have fC : ∀ i, wA.frozen? ⟨V.heap.size, i, none⟩ = false := fun i => (hbA.frozen (p := ⟨V.heap.size, i, none⟩) (by simp)).trans (by simp)
              have sC : V.heap.size + 1 ≤ wA.heap.size := by have := hbA.size; simp at this; omega)
           | skip)
      | (go_at_call 57; (with_reducible refine (D4.out _).mono ?_); rintro e wR ⟨rfl, hbR⟩
         have hR : Below V.heap.size V wR := by first | exact hA.trans (hbR.mono hA.size) | exact (hA.alloc hA.size _).trans (hbR.mono (by have := hA.size; simp; omega))
         first
           | (obtain ⟨k0, k1, k2⟩ := kC.keep hbR (by omega)
              have kF := frozen_keep fC hbR (by omega))
           | (have k0 : wR.cell? ⟨wA.heap.size, 0, none⟩ = some (.bool false) := (hbR.cell (p := ⟨wA.heap.size, 0, none⟩) (by simp)).trans (by simp)
              have k1 : wR.cell? ⟨wA.heap.size, 1, none⟩ = some (.string ⟨#[]⟩) := (hbR.cell (p := ⟨wA.heap.size, 1, none⟩) (by simp)).trans (by simp)
              have k2 : wR.cell? ⟨wA.heap.size, 2, none⟩ = some (.string ⟨#[]⟩) := (hbR.cell (p := ⟨wA.heap.size, 2, none⟩) (by simp)).trans (by simp)
              have kF : ∀ i, wR.frozen? ⟨wA.heap.size, i, none⟩ = false := fun i => (hbR.frozen (p := ⟨wA.heap.size, i, none⟩) (by simp)).trans (by simp))
           | skip))
  · obtain ⟨F, hF⟩ : ∃ F, F = wR.alloc (.cells #[.bool yn, .string yi, .string yf] 23) := ⟨_, rfl⟩
    rw [← hF]
    have sA := hA.size
    have sR := hR.size
    have bR := HV.out.trans (hR.mono HV.out.size)
    have ta := CA.out.keep hR (by omega)
    have tr := CR.out.keep hR (by omega)
    have fa := frozen_keep GA.out hR (by omega)
    have fr := frozen_keep GR.out hR (by omega)
    have bx := (Below.refl wR.heap.size wR).alloc (Nat.le_refl _) (.cells #[.bool yn, .string yi, .string yf] 23)
    have FAc : Cells3 F w.heap.size (.bool an) (.string ai) (.string af) := by rw [hF]; exact ta.keep bx (by omega)
    have FRc : Cells3 F (w.heap.size + 1) (.bool false) (.string ⟨#[]⟩) (.string ⟨#[]⟩) := by rw [hF]; exact tr.keep bx (by omega)
    have FAf : ∀ i, F.frozen? ⟨w.heap.size, i, none⟩ = false := by rw [hF]; exact frozen_keep fa bx (by omega)
    have FRf : ∀ i, F.frozen? ⟨w.heap.size + 1, i, none⟩ = false := by rw [hF]; exact frozen_keep fr bx (by omega)
    have FY : Cells3 F wR.heap.size (.bool yn) (.string yi) (.string yf) := by rw [hF]; exact (one_box _ _ _ _ _).2.1
    have bF : Below w.heap.size w F := by rw [hF]; exact bR.alloc bR.size _
    have FS : wR.heap.size + 1 ≤ F.heap.size := by rw [hF]; simp
    clear bx
    have bF' := Lib.hid bF
    have FAc' := Lib.hid FAc
    have FRc' := Lib.hid FRc
    have FRf' := Lib.hid FRf
    clear hF ta tr fa fr bR hbA hbR hA hR o0 o1 o2 FRc FRf bF
    obtain ⟨a0, a1, a2⟩ := FAc
    obtain ⟨y0, y1, y2⟩ := FY
    go_wp2_with fail
    obtain ⟨G, hG⟩ : ∃ G, G = ((F.setCell ⟨w.heap.size, 0, none⟩ (.bool yn)).setCell ⟨w.heap.size, 1, none⟩ (.string yi)).setCell ⟨w.heap.size, 2, none⟩ (.string yf) := ⟨_, rfl⟩
    rw [← hG]
    have GA2 : Cells3 G w.heap.size (.bool yn) (.string yi) (.string yf) := by rw [hG]; obtain ⟨e0, e1, e2⟩ := res_cells a0 a1 a2 (.bool yn) (.string yi) (.string yf); exact ⟨cell_set_far _ _ _ _ _ _ (by decide) (cell_set_far _ _ _ _ _ _ (by decide) e0), cell_set_far _ _ _ _ _ _ (by decide) e1, e2⟩
    have GR2 : Cells3 G (w.heap.size + 1) (.bool false) (.string ⟨#[]⟩) (.string ⟨#[]⟩) := by rw [hG]; exact ⟨(far3 _ _ _ _ _ _ _ (by omega)).trans FRc'.out.1, (far3 _ _ _ _ _ _ _ (by omega)).trans FRc'.out.2.1, (far3 _ _ _ _ _ _ _ (by omega)).trans FRc'.out.2.2⟩
    have GF2 : ∀ i, G.frozen? ⟨w.heap.size + 1, i, none⟩ = false := by rw [hG]; intro i; simpa using FRf'.out i
    have bG := Lib.hid (show Below w.heap.size w G by rw [hG]; exact res_below bF'.out (Nat.le_refl _) _ _ _)
    have hzG : w.heap.size + 2 ≤ G.heap.size := by rw [hG]; simp [World.setCell]; omega
    have KA := Lib.hid GA2
    have KR := Lib.hid GR2
    have KF := Lib.hid GF2
    clear hG GA2 GR2 GF2 a0 a1 a2 y0 y1 y2 FAc' FRc' FRf' bF' FAf FS
    obtain ⟨s0, s1, s2'⟩ := KA.out
    go_region_held3 (fun w' => w'.cell? ⟨w.heap.size, 0, none⟩ = some (.bool yn) ∧ w'.cell? ⟨w.heap.size, 1, none⟩ = some (.string yi) ∧ w'.cell? ⟨w.heap.size, 2, none⟩ = some (.string yf))
      (first
        | (with_reducible exact ⟨s0, s1, s2'⟩)
        | (with_reducible exact ⟨(rdrew_cell _ _).trans s0, (rdrew_cell _ _).trans s1, (rdrew_cell _ _).trans s2'⟩)
        | (have t := KA.out.keep hQ (by omega); obtain ⟨t0, t1, t2⟩ := t; with_reducible exact ⟨t0, t1, t2⟩)
        | (have t := KA.out.keep hP (by omega); obtain ⟨t0, t1, t2⟩ := t; with_reducible exact ⟨t0, t1, t2⟩)
        | (have t := KA.out.keep hQ (by omega); obtain ⟨t0, t1, t2⟩ := t; with_reducible exact ⟨(far3 _ _ _ _ _ _ _ (by omega)).trans t0, (far3 _ _ _ _ _ _ _ (by omega)).trans t1, (far3 _ _ _ _ _ _ _ (by omega)).trans t2⟩)
        | (have t := KA.out.keep hQ (by omega); obtain ⟨t0, t1, t2⟩ := t; with_reducible exact ⟨(rdrew_cell _ _).trans ((far3 _ _ _ _ _ _ _ (by omega)).trans t0), (rdrew_cell _ _).trans ((far3 _ _ _ _ _ _ _ (by omega)).trans t1), (rdrew_cell _ _).trans ((far3 _ _ _ _ _ _ _ (by omega)).trans t2)⟩))
      (first
        | (go_at_call 56; (with_reducible refine (D5.out _).mono ?_); rintro e wP ⟨rfl, hbP⟩; have hP : Below G.heap.size G wP := undrew hbP)
        | (go_at_call 59; (with_reducible refine (D6.out _ ?_).mono ?_); (focus first | rfl | omega); rintro e wQ ⟨rfl, hbQ⟩
           have hQ : Below G.heap.size G wQ := hP.trans (hbQ.mono hP.size)
           obtain ⟨r0, r1, r2⟩ := KR.out.keep hQ (by omega)
           have zf := frozen_keep KF.out hQ (by omega)))
    all_goals
      have B6 := Lib.hid (bG.out.trans (hQ.mono bG.out.size))
      obtain ⟨e0, e1, e2⟩ := res_cells r0 r1 r2 (.bool xn) (.string xi) (.string xf)
      go_wp2
      exact bodyPost_ret (v := .tuple #[.agg #[.bool xn, .string xi, .string xf], .int .i64 c]) (by simp [results, Try.results27, go_sem, e0, e1, e2]) rfl ⟨rfl, res_below B6.out (by omega) _ _ _⟩
  · obtain ⟨F, hF⟩ : ∃ F, F = ((wR.setCell ⟨wA.heap.size, 0, none⟩ (.bool yn)).setCell ⟨wA.heap.size, 1, none⟩ (.string yi)).setCell ⟨wA.heap.size, 2, none⟩ (.string yf) := ⟨_, rfl⟩
    rw [← hF]
    have sA := hA.size
    have sR := hR.size
    have bR := HV.out.trans (hR.mono HV.out.size)
    have ta := CA.out.keep hR (by omega)
    have tr := CR.out.keep hR (by omega)
    have fa := frozen_keep GA.out hR (by omega)
    have fr := frozen_keep GR.out hR (by omega)
    have FAc : Cells3 F w.heap.size (.bool an) (.string ai) (.string af) := by rw [hF]; exact ⟨(far3 _ _ _ _ _ _ _ (by omega)).trans ta.1, (far3 _ _ _ _ _ _ _ (by omega)).trans ta.2.1, (far3 _ _ _ _ _ _ _ (by omega)).trans ta.2.2⟩
    have FRc : Cells3 F (w.heap.size + 1) (.bool false) (.string ⟨#[]⟩) (.string ⟨#[]⟩) := by rw [hF]; exact ⟨(far3 _ _ _ _ _ _ _ (by omega)).trans tr.1, (far3 _ _ _ _ _ _ _ (by omega)).trans tr.2.1, (far3 _ _ _ _ _ _ _ (by omega)).trans tr.2.2⟩
    have FAf : ∀ i, F.frozen? ⟨w.heap.size, i, none⟩ = false := by rw [hF]; intro i; simpa using fa i
    have FRf : ∀ i, F.frozen? ⟨w.heap.size + 1, i, none⟩ = false := by rw [hF]; intro i; simpa using fr i
    have FY : Cells3 F wA.heap.size (.bool yn) (.string yi) (.string yf) := by rw [hF]; obtain ⟨e0, e1, e2⟩ := res_cells k0 k1 k2 (.bool yn) (.string yi) (.string yf); exact ⟨cell_set_far _ _ _ _ _ _ (by decide) (cell_set_far _ _ _ _ _ _ (by decide) e0), cell_set_far _ _ _ _ _ _ (by decide) e1, e2⟩
    have bF : Below w.heap.size w F := by rw [hF]; exact res_below bR (by omega) _ _ _
    have FS : wA.heap.size + 1 ≤ F.heap.size := by rw [hF]; have := hbR.size; simp [World.setCell] at *; omega
    clear k0 k1 k2 kF
    have bF' := Lib.hid bF
    have FAc' := Lib.hid FAc
    have FRc' := Lib.hid FRc
    have FRf' := Lib.hid FRf
    clear hF ta tr fa fr bR hbA hbR hA hR o0 o1 o2 FRc FRf bF
    obtain ⟨a0, a1, a2⟩ := FAc
    obtain ⟨y0, y1, y2⟩ := FY
    go_wp2_with fail
    obtain ⟨G, hG⟩ : ∃ G, G = ((F.setCell ⟨w.heap.size, 0, none⟩ (.bool yn)).setCell ⟨w.heap.size, 1, none⟩ (.string yi)).setCell ⟨w.heap.size, 2, none⟩ (.string yf) := ⟨_, rfl⟩
    rw [← hG]
    have GA2 : Cells3 G w.heap.size (.bool yn) (.string yi) (.string yf) := by rw [hG]; obtain ⟨e0, e1, e2⟩ := res_cells a0 a1 a2 (.bool yn) (.string yi) (.string yf); exact ⟨cell_set_far _ _ _ _ _ _ (by decide) (cell_set_far _ _ _ _ _ _ (by decide) e0), cell_set_far _ _ _ _ _ _ (by decide) e1, e2⟩
    have GR2 : Cells3 G (w.heap.size + 1) (.bool false) (.string ⟨#[]⟩) (.string ⟨#[]⟩) := by rw [hG]; exact ⟨(far3 _ _ _ _ _ _ _ (by omega)).trans FRc'.out.1, (far3 _ _ _ _ _ _ _ (by omega)).trans FRc'.out.2.1, (far3 _ _ _ _ _ _ _ (by omega)).trans FRc'.out.2.2⟩
    have GF2 : ∀ i, G.frozen? ⟨w.heap.size + 1, i, none⟩ = false := by rw [hG]; intro i; simpa using FRf'.out i
    have bG := Lib.hid (show Below w.heap.size w G by rw [hG]; exact res_below bF'.out (Nat.le_refl _) _ _ _)
    have hzG : w.heap.size + 2 ≤ G.heap.size := by rw [hG]; simp [World.setCell]; omega
    have KA := Lib.hid GA2
    have KR := Lib.hid GR2
    have KF := Lib.hid GF2
    clear hG GA2 GR2 GF2 a0 a1 a2 y0 y1 y2 FAc' FRc' FRf' bF' FAf FS
    obtain ⟨s0, s1, s2'⟩ := KA.out
    go_region_held3 (fun w' => w'.cell? ⟨w.heap.size, 0, none⟩ = some (.bool yn) ∧ w'.cell? ⟨w.heap.size, 1, none⟩ = some (.string yi) ∧ w'.cell? ⟨w.heap.size, 2, none⟩ = some (.string yf))
      (first
        | (with_reducible exact ⟨s0, s1, s2'⟩)
        | (with_reducible exact ⟨(rdrew_cell _ _).trans s0, (rdrew_cell _ _).trans s1, (rdrew_cell _ _).trans s2'⟩)
        | (have t := KA.out.keep hQ (by omega); obtain ⟨t0, t1, t2⟩ := t; with_reducible exact ⟨t0, t1, t2⟩)
        | (have t := KA.out.keep hP (by omega); obtain ⟨t0, t1, t2⟩ := t; with_reducible exact ⟨t0, t1, t2⟩)
        | (have t := KA.out.keep hQ (by omega); obtain ⟨t0, t1, t2⟩ := t; with_reducible exact ⟨(far3 _ _ _ _ _ _ _ (by omega)).trans t0, (far3 _ _ _ _ _ _ _ (by omega)).trans t1, (far3 _ _ _ _ _ _ _ (by omega)).trans t2⟩)
        | (have t := KA.out.keep hQ (by omega); obtain ⟨t0, t1, t2⟩ := t; with_reducible exact ⟨(rdrew_cell _ _).trans ((far3 _ _ _ _ _ _ _ (by omega)).trans t0), (rdrew_cell _ _).trans ((far3 _ _ _ _ _ _ _ (by omega)).trans t1), (rdrew_cell _ _).trans ((far3 _ _ _ _ _ _ _ (by omega)).trans t2)⟩))
      (first
        | (go_at_call 56; (with_reducible refine (D5.out _).mono ?_); rintro e wP ⟨rfl, hbP⟩; have hP : Below G.heap.size G wP := undrew hbP)
        | (go_at_call 59; (with_reducible refine (D6.out _ ?_).mono ?_); (focus first | rfl | omega); rintro e wQ ⟨rfl, hbQ⟩
           have hQ : Below G.heap.size G wQ := hP.trans (hbQ.mono hP.size)
           obtain ⟨r0, r1, r2⟩ := KR.out.keep hQ (by omega)
           have zf := frozen_keep KF.out hQ (by omega)))
    all_goals
      have B6 := Lib.hid (bG.out.trans (hQ.mono bG.out.size))
      obtain ⟨e0, e1, e2⟩ := res_cells r0 r1 r2 (.bool xn) (.string xi) (.string xf)
      go_wp2
      exact bodyPost_ret (v := .tuple #[.agg #[.bool xn, .string xi, .string xf], .int .i64 c]) (by simp [results, Try.results27, go_sem, e0, e1, e2]) rfl ⟨rfl, res_below B6.out (by omega) _ _ _⟩
  · obtain ⟨F, hF⟩ : ∃ F, F = ((wR.setCell ⟨V.heap.size, 0, none⟩ (.bool yn)).setCell ⟨V.heap.size, 1, none⟩ (.string yi)).setCell ⟨V.heap.size, 2, none⟩ (.string yf) := ⟨_, rfl⟩
    rw [← hF]
    have sA := hA.size
    have sR := hR.size
    have bR := HV.out.trans (hR.mono HV.out.size)
    have ta := CA.out.keep hR (by omega)
    have tr := CR.out.keep hR (by omega)
    have fa := frozen_keep GA.out hR (by omega)
    have fr := frozen_keep GR.out hR (by omega)
    have FAc : Cells3 F w.heap.size (.bool an) (.string ai) (.string af) := by rw [hF]; exact ⟨(far3 _ _ _ _ _ _ _ (by omega)).trans ta.1, (far3 _ _ _ _ _ _ _ (by omega)).trans ta.2.1, (far3 _ _ _ _ _ _ _ (by omega)).trans ta.2.2⟩
    have FRc : Cells3 F (w.heap.size + 1) (.bool false) (.string ⟨#[]⟩) (.string ⟨#[]⟩) := by rw [hF]; exact ⟨(far3 _ _ _ _ _ _ _ (by omega)).trans tr.1, (far3 _ _ _ _ _ _ _ (by omega)).trans tr.2.1, (far3 _ _ _ _ _ _ _ (by omega)).trans tr.2.2⟩
    have FAf : ∀ i, F.frozen? ⟨w.heap.size, i, none⟩ = false := by rw [hF]; intro i; simpa using fa i
    have FRf : ∀ i, F.frozen? ⟨w.heap.size + 1, i, none⟩ = false := by rw [hF]; intro i; simpa using fr i
    have FY : Cells3 F V.heap.size (.bool yn) (.string yi) (.string yf) := by rw [hF]; obtain ⟨e0, e1, e2⟩ := res_cells k0 k1 k2 (.bool yn) (.string yi) (.string yf); exact ⟨cell_set_far _ _ _ _ _ _ (by decide) (cell_set_far _ _ _ _ _ _ (by decide) e0), cell_set_far _ _ _ _ _ _ (by decide) e1, e2⟩
    have bF : Below w.heap.size w F := by rw [hF]; exact res_below bR (by omega) _ _ _
    have FS : V.heap.size + 1 ≤ F.heap.size := by rw [hF]; have := hbR.size; simp [World.setCell] at *; omega
    clear k0 k1 k2 kF
    have bF' := Lib.hid bF
    have FAc' := Lib.hid FAc
    have FRc' := Lib.hid FRc
    have FRf' := Lib.hid FRf
    clear hF ta tr fa fr bR hbA hbR hA hR o0 o1 o2 FRc FRf bF
    obtain ⟨a0, a1, a2⟩ := FAc
    obtain ⟨y0, y1, y2⟩ := FY
    go_wp2_with fail
    obtain ⟨G, hG⟩ : ∃ G, G = ((F.setCell ⟨w.heap.size, 0, none⟩ (.bool yn)).setCell ⟨w.heap.size, 1, none⟩ (.string yi)).setCell ⟨w.heap.size, 2, none⟩ (.string yf) := ⟨_, rfl⟩
    rw [← hG]
    have GA2 : Cells3 G w.heap.size (.bool yn) (.string yi) (.string yf) := by rw [hG]; obtain ⟨e0, e1, e2⟩ := res_cells a0 a1 a2 (.bool yn) (.string yi) (.string yf); exact ⟨cell_set_far _ _ _ _ _ _ (by decide) (cell_set_far _ _ _ _ _ _ (by decide) e0), cell_set_far _ _ _ _ _ _ (by decide) e1, e2⟩
    have GR2 : Cells3 G (w.heap.size + 1) (.bool false) (.string ⟨#[]⟩) (.string ⟨#[]⟩) := by rw [hG]; exact ⟨(far3 _ _ _ _ _ _ _ (by omega)).trans FRc'.out.1, (far3 _ _ _ _ _ _ _ (by omega)).trans FRc'.out.2.1, (far3 _ _ _ _ _ _ _ (by omega)).trans FRc'.out.2.2⟩
    have GF2 : ∀ i, G.frozen? ⟨w.heap.size + 1, i, none⟩ = false := by rw [hG]; intro i; simpa using FRf'.out i
    have bG := Lib.hid (show Below w.heap.size w G by rw [hG]; exact res_below bF'.out (Nat.le_refl _) _ _ _)
    have hzG : w.heap.size + 2 ≤ G.heap.size := by rw [hG]; simp [World.setCell]; omega
    have KA := Lib.hid GA2
    have KR := Lib.hid GR2
    have KF := Lib.hid GF2
    clear hG GA2 GR2 GF2 a0 a1 a2 y0 y1 y2 FAc' FRc' FRf' bF' FAf FS
    obtain ⟨s0, s1, s2'⟩ := KA.out
    go_region_held3 (fun w' => w'.cell? ⟨w.heap.size, 0, none⟩ = some (.bool yn) ∧ w'.cell? ⟨w.heap.size, 1, none⟩ = some (.string yi) ∧ w'.cell? ⟨w.heap.size, 2, none⟩ = some (.string yf))
      (first
        | (with_reducible exact ⟨s0, s1, s2'⟩)
        | (with_reducible exact ⟨(rdrew_cell _ _).trans s0, (rdrew_cell _ _).trans s1, (rdrew_cell _ _).trans s2'⟩)
        | (have t := KA.out.keep hQ (by omega); obtain ⟨t0, t1, t2⟩ := t; with_reducible exact ⟨t0, t1, t2⟩)
        | (have t := KA.out.keep hP (by omega); obtain ⟨t0, t1, t2⟩ := t; with_reducible exact ⟨t0, t1, t2⟩)
        | (have t := KA.out.keep hQ (by omega); obtain ⟨t0, t1, t2⟩ := t; with_reducible exact ⟨(far3 _ _ _ _ _ _ _ (by omega)).trans t0, (far3 _ _ _ _ _ _ _ (by omega)).trans t1, (far3 _ _ _ _ _ _ _ (by omega)).trans t2⟩)
        | (have t := KA.out.keep hQ (by omega); obtain ⟨t0, t1, t2⟩ := t; with_reducible exact ⟨(rdrew_cell _ _).trans ((far3 _ _ _ _ _ _ _ (by omega)).trans t0), (rdrew_cell _ _).trans ((far3 _ _ _ _ _ _ _ (by omega)).trans t1), (rdrew_cell _ _).trans ((far3 _ _ _ _ _ _ _ (by omega)).trans t2)⟩))
      (first
        | (go_at_call 56; (with_reducible refine (D5.out _).mono ?_); rintro e wP ⟨rfl, hbP⟩; have hP : Below G.heap.size G wP := undrew hbP)
        | (go_at_call 59; (with_reducible refine (D6.out _ ?_).mono ?_); (focus first | rfl | omega); rintro e wQ ⟨rfl, hbQ⟩
           have hQ : Below G.heap.size G wQ := hP.trans (hbQ.mono hP.size)
           obtain ⟨r0, r1, r2⟩ := KR.out.keep hQ (by omega)
           have zf := frozen_keep KF.out hQ (by omega)))
    all_goals
      have B6 := Lib.hid (bG.out.trans (hQ.mono bG.out.size))
      obtain ⟨e0, e1, e2⟩ := res_cells r0 r1 r2 (.bool xn) (.string xi) (.string xf)
      go_wp2
      exact bodyPost_ret (v := .tuple #[.agg #[.bool xn, .string xi, .string xf], .int .i64 c]) (by simp [results, Try.results27, go_sem, e0, e1, e2]) rfl ⟨rfl, res_below B6.out (by omega) _ _ _⟩

end Go.Proofs.Ytcdmanhhddcmcaa
