/- DecimalDivides: Div and Rem are the reference's. -/
import Derived.Test.YtmaljkjcibdbgaaDTold
namespace Go.Proofs.Ytmaljkjcibdbgaa
open Go.RowKit

set_option maxHeartbeats 8000000 in
set_option maxRecDepth 100000 in
theorem divides_core (an bn qn rn : Bool) (ai af bi bf qi qf ri rf : ByteArray) (c1 c2 : Int) (w : World) (H1 : ∀ wx : World, Calls Try.prog 25 #[(.agg #[.bool an, .string ai, .string af]), (.agg #[.bool bn, .string bi, .string bf])] wx fun e w' => e = .returned (.tuple #[(.agg #[.bool qn, .string qi, .string qf]), .int .i64 c1]) ∧ Below wx.heap.size wx w') (H2 : ∀ wx : World, Calls Try.prog 26 #[(.agg #[.bool an, .string ai, .string af]), (.agg #[.bool bn, .string bi, .string bf])] wx fun e w' => e = .returned (.tuple #[(.agg #[.bool qn, .string qi, .string qf]), .int .i64 c1]) ∧ Below wx.heap.size wx w') (H3 : ∀ wx : World, Calls Try.prog 27 #[(.agg #[.bool an, .string ai, .string af]), (.agg #[.bool bn, .string bi, .string bf])] wx fun e w' => e = .returned (.tuple #[(.agg #[.bool rn, .string ri, .string rf]), .int .i64 c2]) ∧ Below wx.heap.size wx w') (H4 : ∀ wx : World, Calls Try.prog 28 #[(.agg #[.bool an, .string ai, .string af]), (.agg #[.bool bn, .string bi, .string bf])] wx fun e w' => e = .returned (.tuple #[(.agg #[.bool rn, .string ri, .string rf]), .int .i64 c2]) ∧ Below wx.heap.size wx w') :
    Calls Try.prog 5 #[(.agg #[.bool an, .string ai, .string af]), (.agg #[.bool bn, .string bi, .string bf])] w fun e w' => e = .returned (.bool true) ∧ Below w.heap.size w w' := by
  have DW := Lib.hid awake_any
  have DT := Lib.hid told_same
  have D1 := Lib.hid H1
  have D2 := Lib.hid H2
  have D3 := Lib.hid H3
  have D4 := Lib.hid H4
  clear H1 H2 H3 H4
  go_enter Try.func5, Try.ntmps5
  go_wp2_with fail
  obtain ⟨W0, hW0⟩ : ∃ W0, W0 = ((w.alloc (.cells #[.bool an, .string ai, .string af] 23)).alloc (.cells #[.bool bn, .string bi, .string bf] 23)) := ⟨_, rfl⟩
  obtain ⟨hB, hz, C0, C1, _⟩ : Below w.heap.size w W0 ∧ w.heap.size + 2 ≤ W0.heap.size ∧ Cells3 W0 w.heap.size (.bool an) (.string ai) (.string af) ∧ Cells3 W0 (w.heap.size + 1) (.bool bn) (.string bi) (.string bf) ∧ ∀ i, W0.frozen? ⟨(w.heap.size + 1), i, none⟩ = false := by rw [hW0]; exact ⟨below_two w _ _, two_boxes w _ _ _ _ _ _ _⟩
  have z0 : w.heap.size + 1 ≤ W0.heap.size := by omega
  have z1 : (w.heap.size + 1) + 1 ≤ W0.heap.size := by omega
  rw [← hW0]
  have HB := Lib.hid hB
  clear hW0 hB hz
  (with_reducible refine (D1.out _).mono ?_)
  rintro e V1 ⟨rfl, hb⟩
  replace C0 := C0.keep hb (by omega)
  replace z0 : w.heap.size + 1 ≤ V1.heap.size := by have := hb.size; omega
  replace C1 := C1.keep hb (by omega)
  replace z1 : (w.heap.size + 1) + 1 ≤ V1.heap.size := by have := hb.size; omega
  replace HB := Lib.hid (HB.out.trans (hb.mono HB.out.size))
  clear hb
  have y2_1 := z1
  have y2_0 := z0
  have ba : Below V1.heap.size V1 (V1.alloc (.cells #[.bool qn, .string qi, .string qf] 23)) := (Below.refl _ _).alloc (Nat.le_refl _) _
  replace C0 := C0.keep ba (by omega)
  replace z0 : w.heap.size + 1 ≤ (V1.alloc (.cells #[.bool qn, .string qi, .string qf] 23)).heap.size := by have := ba.size; omega
  replace C1 := C1.keep ba (by omega)
  replace z1 : (w.heap.size + 1) + 1 ≤ (V1.alloc (.cells #[.bool qn, .string qi, .string qf] 23)).heap.size := by have := ba.size; omega
  replace HB := Lib.hid (HB.out.trans (ba.mono HB.out.size))
  clear ba
  have C2 : Cells3 (V1.alloc (.cells #[.bool qn, .string qi, .string qf] 23)) V1.heap.size (.bool qn) (.string qi) (.string qf) := (one_box V1 _ _ _ _).2.1
  have z2 : V1.heap.size + 1 ≤ (V1.alloc (.cells #[.bool qn, .string qi, .string qf] 23)).heap.size := by simp
  have o00 := C0.1
  have o10 := C1.1
  have o20 := C2.1
  have o01 := C0.2.1
  have o02 := C0.2.2
  have o11 := C1.2.1
  have o12 := C1.2.2
  have o21 := C2.2.1
  have o22 := C2.2.2
  have F2 := Lib.hid (one_box V1 (.bool qn) (.string qi) (.string qf) 23).2.2
  go_wp2_with fail
  clear o00 o01 o02 o10 o11 o12 o20 o21 o22
  obtain ⟨V1x, hV1x⟩ : ∃ V1x, V1x = V1.alloc (.cells #[.bool qn, .string qi, .string qf] 23) := ⟨_, rfl⟩
  have HX := Lib.hid (show V1.heap.size + 1 = V1x.heap.size by rw [hV1x]; simp)
  rw [← hV1x]
  rw [← hV1x] at HB C0 z0 C1 z1 C2 z2 F2
  clear hV1x
  (with_reducible refine (D2.out _).mono ?_)
  rintro e V2 ⟨rfl, hb⟩
  replace F2 := Lib.hid (frozen_keep F2.out hb (by omega))
  replace C0 := C0.keep hb (by omega)
  replace z0 : w.heap.size + 1 ≤ V2.heap.size := by have := hb.size; omega
  replace C1 := C1.keep hb (by omega)
  replace z1 : (w.heap.size + 1) + 1 ≤ V2.heap.size := by have := hb.size; omega
  replace C2 := C2.keep hb (by omega)
  replace z2 : V1.heap.size + 1 ≤ V2.heap.size := by have := hb.size; omega
  replace HB := Lib.hid (HB.out.trans (hb.mono HB.out.size))
  clear hb
  have y3_2 := z2
  have y3_1 := z1
  have y3_0 := z0
  have ba : Below V2.heap.size V2 (V2.alloc (.cells #[.bool qn, .string qi, .string qf] 23)) := (Below.refl _ _).alloc (Nat.le_refl _) _
  replace C0 := C0.keep ba (by omega)
  replace z0 : w.heap.size + 1 ≤ (V2.alloc (.cells #[.bool qn, .string qi, .string qf] 23)).heap.size := by have := ba.size; omega
  replace C1 := C1.keep ba (by omega)
  replace z1 : (w.heap.size + 1) + 1 ≤ (V2.alloc (.cells #[.bool qn, .string qi, .string qf] 23)).heap.size := by have := ba.size; omega
  replace C2 := C2.keep ba (by omega)
  replace z2 : V1.heap.size + 1 ≤ (V2.alloc (.cells #[.bool qn, .string qi, .string qf] 23)).heap.size := by have := ba.size; omega
  replace HB := Lib.hid (HB.out.trans (ba.mono HB.out.size))
  clear ba
  have C3 : Cells3 (V2.alloc (.cells #[.bool qn, .string qi, .string qf] 23)) V2.heap.size (.bool qn) (.string qi) (.string qf) := (one_box V2 _ _ _ _).2.1
  have z3 : V2.heap.size + 1 ≤ (V2.alloc (.cells #[.bool qn, .string qi, .string qf] 23)).heap.size := by simp
  have o00 := C0.1
  have o10 := C1.1
  have o20 := C2.1
  have o30 := C3.1
  have o01 := C0.2.1
  have o02 := C0.2.2
  have o11 := C1.2.1
  have o12 := C1.2.2
  have o21 := C2.2.1
  have o22 := C2.2.2
  have o31 := C3.2.1
  have o32 := C3.2.2
  replace F2 := Lib.hid (frozen_keep F2.out ((Below.refl _ _).alloc (Nat.le_refl _) (.cells #[.bool qn, .string qi, .string qf] 23)) (by omega))
  have F3 := Lib.hid (one_box V2 (.bool qn) (.string qi) (.string qf) 23).2.2
  go_wp2_with fail
  clear o00 o01 o02 o10 o11 o12 o20 o21 o22 o30 o31 o32
  obtain ⟨V2x, hV2x⟩ : ∃ V2x, V2x = V2.alloc (.cells #[.bool qn, .string qi, .string qf] 23) := ⟨_, rfl⟩
  have HX := Lib.hid (show V2.heap.size + 1 = V2x.heap.size by rw [hV2x]; simp)
  rw [← hV2x]
  rw [← hV2x] at HB C0 z0 C1 z1 C2 z2 C3 z3 F2 F3
  clear hV2x
  (with_reducible refine (DT.out _ _ _ _ _).mono ?_)
  rintro e V3 ⟨rfl, hb⟩
  replace F2 := Lib.hid (frozen_keep F2.out hb (by omega))
  replace F3 := Lib.hid (frozen_keep F3.out hb (by omega))
  replace C0 := C0.keep hb (by omega)
  replace z0 : w.heap.size + 1 ≤ V3.heap.size := by have := hb.size; omega
  replace C1 := C1.keep hb (by omega)
  replace z1 : (w.heap.size + 1) + 1 ≤ V3.heap.size := by have := hb.size; omega
  replace C2 := C2.keep hb (by omega)
  replace z2 : V1.heap.size + 1 ≤ V3.heap.size := by have := hb.size; omega
  replace C3 := C3.keep hb (by omega)
  replace z3 : V2.heap.size + 1 ≤ V3.heap.size := by have := hb.size; omega
  replace HB := Lib.hid (HB.out.trans (hb.mono HB.out.size))
  clear hb
  have o00 := C0.1
  have o10 := C1.1
  have o20 := C2.1
  have o30 := C3.1
  have o01 := C0.2.1
  have o02 := C0.2.2
  have o11 := C1.2.1
  have o12 := C1.2.2
  have o21 := C2.2.1
  have o22 := C2.2.2
  have o31 := C3.2.1
  have o32 := C3.2.2
  go_wp2_with fail
  clear o00 o01 o02 o10 o11 o12 o20 o21 o22 o30 o31 o32
  (with_reducible refine (DW.out _).mono ?_)
  rintro e V4 ⟨rfl, hb⟩
  replace F2 := Lib.hid (frozen_keep F2.out hb (by omega))
  replace F3 := Lib.hid (frozen_keep F3.out hb (by omega))
  replace C0 := C0.keep hb (by omega)
  replace z0 : w.heap.size + 1 ≤ V4.heap.size := by have := hb.size; omega
  replace C1 := C1.keep hb (by omega)
  replace z1 : (w.heap.size + 1) + 1 ≤ V4.heap.size := by have := hb.size; omega
  replace C2 := C2.keep hb (by omega)
  replace z2 : V1.heap.size + 1 ≤ V4.heap.size := by have := hb.size; omega
  replace C3 := C3.keep hb (by omega)
  replace z3 : V2.heap.size + 1 ≤ V4.heap.size := by have := hb.size; omega
  replace HB := Lib.hid (HB.out.trans (hb.mono HB.out.size))
  clear hb
  have o00 := C0.1
  have o10 := C1.1
  have o20 := C2.1
  have o30 := C3.1
  have o01 := C0.2.1
  have o02 := C0.2.2
  have o11 := C1.2.1
  have o12 := C1.2.2
  have o21 := C2.2.1
  have o22 := C2.2.2
  have o31 := C3.2.1
  have o32 := C3.2.2
  go_wp2_with fail
  clear o00 o01 o02 o10 o11 o12 o20 o21 o22 o30 o31 o32
  (with_reducible refine (D3.out _).mono ?_)
  rintro e V5 ⟨rfl, hb⟩
  replace F2 := Lib.hid (frozen_keep F2.out hb (by omega))
  replace F3 := Lib.hid (frozen_keep F3.out hb (by omega))
  replace C0 := C0.keep hb (by omega)
  replace z0 : w.heap.size + 1 ≤ V5.heap.size := by have := hb.size; omega
  replace C1 := C1.keep hb (by omega)
  replace z1 : (w.heap.size + 1) + 1 ≤ V5.heap.size := by have := hb.size; omega
  replace C2 := C2.keep hb (by omega)
  replace z2 : V1.heap.size + 1 ≤ V5.heap.size := by have := hb.size; omega
  replace C3 := C3.keep hb (by omega)
  replace z3 : V2.heap.size + 1 ≤ V5.heap.size := by have := hb.size; omega
  replace HB := Lib.hid (HB.out.trans (hb.mono HB.out.size))
  clear hb
  have o00 := C0.1
  have o10 := C1.1
  have o20 := C2.1
  have o30 := C3.1
  have o01 := C0.2.1
  have o02 := C0.2.2
  have o11 := C1.2.1
  have o12 := C1.2.2
  have o21 := C2.2.1
  have o22 := C2.2.2
  have o31 := C3.2.1
  have o32 := C3.2.2
  have f2 := F2.out
  have f3 := F3.out
  go_wp2_with fail
  clear f2
  clear f3
  clear o00 o01 o02 o10 o11 o12 o20 o21 o22 o30 o31 o32
  obtain ⟨V5s, hV5s⟩ : ∃ X, X = ((V5.setCell ⟨V1.heap.size, 0, none⟩ (.bool rn)).setCell ⟨V1.heap.size, 1, none⟩ (.string ri)).setCell ⟨V1.heap.size, 2, none⟩ (.string rf) := ⟨_, rfl⟩
  have C0n := far_box C0 (show w.heap.size ≠ V1.heap.size by omega) (.bool rn) (.string ri) (.string rf)
  have C1n := far_box C1 (show (w.heap.size + 1) ≠ V1.heap.size by omega) (.bool rn) (.string ri) (.string rf)
  have C2n := set_box C2 (.bool rn) (.string ri) (.string rf)
  have C3n := far_box C3 (show V2.heap.size ≠ V1.heap.size by omega) (.bool rn) (.string ri) (.string rf)
  have HBn := Lib.hid (res_below HB.out (show w.heap.size ≤ V1.heap.size by omega) (.bool rn) (.string ri) (.string rf))
  have hsz : V5s.heap.size = V5.heap.size := by rw [hV5s]; simp [World.setCell]
  replace F2 : Hid (∀ i, V5s.frozen? ⟨V1.heap.size, i, none⟩ = false) := by have t := F2.out; show ∀ i, _; rw [hV5s]; intro i; simpa using t i
  replace F3 : Hid (∀ i, V5s.frozen? ⟨V2.heap.size, i, none⟩ = false) := by have t := F3.out; show ∀ i, _; rw [hV5s]; intro i; simpa using t i
  rw [← hV5s]
  rw [← hV5s] at HBn C0n C1n C2n C3n
  clear HB C0 C1 C2 C3 hV5s
  have HB := HBn
  clear HBn
  have C0 := C0n
  clear C0n
  replace z0 : w.heap.size + 1 ≤ V5s.heap.size := by omega
  have C1 := C1n
  clear C1n
  replace z1 : (w.heap.size + 1) + 1 ≤ V5s.heap.size := by omega
  have C2 := C2n
  clear C2n
  replace z2 : V1.heap.size + 1 ≤ V5s.heap.size := by omega
  have C3 := C3n
  clear C3n
  replace z3 : V2.heap.size + 1 ≤ V5s.heap.size := by omega
  clear hsz
  (with_reducible refine (D4.out _).mono ?_)
  rintro e V6 ⟨rfl, hb⟩
  replace F2 := Lib.hid (frozen_keep F2.out hb (by omega))
  replace F3 := Lib.hid (frozen_keep F3.out hb (by omega))
  replace C0 := C0.keep hb (by omega)
  replace z0 : w.heap.size + 1 ≤ V6.heap.size := by have := hb.size; omega
  replace C1 := C1.keep hb (by omega)
  replace z1 : (w.heap.size + 1) + 1 ≤ V6.heap.size := by have := hb.size; omega
  replace C2 := C2.keep hb (by omega)
  replace z2 : V1.heap.size + 1 ≤ V6.heap.size := by have := hb.size; omega
  replace C3 := C3.keep hb (by omega)
  replace z3 : V2.heap.size + 1 ≤ V6.heap.size := by have := hb.size; omega
  replace HB := Lib.hid (HB.out.trans (hb.mono HB.out.size))
  clear hb
  have o00 := C0.1
  have o10 := C1.1
  have o20 := C2.1
  have o30 := C3.1
  have o01 := C0.2.1
  have o02 := C0.2.2
  have o11 := C1.2.1
  have o12 := C1.2.2
  have o21 := C2.2.1
  have o22 := C2.2.2
  have o31 := C3.2.1
  have o32 := C3.2.2
  have f2 := F2.out
  have f3 := F3.out
  go_wp2_with fail
  clear f2
  clear f3
  clear o00 o01 o02 o10 o11 o12 o20 o21 o22 o30 o31 o32
  obtain ⟨V6s, hV6s⟩ : ∃ X, X = ((V6.setCell ⟨V2.heap.size, 0, none⟩ (.bool rn)).setCell ⟨V2.heap.size, 1, none⟩ (.string ri)).setCell ⟨V2.heap.size, 2, none⟩ (.string rf) := ⟨_, rfl⟩
  have C0n := far_box C0 (show w.heap.size ≠ V2.heap.size by omega) (.bool rn) (.string ri) (.string rf)
  have C1n := far_box C1 (show (w.heap.size + 1) ≠ V2.heap.size by omega) (.bool rn) (.string ri) (.string rf)
  have C2n := far_box C2 (show V1.heap.size ≠ V2.heap.size by omega) (.bool rn) (.string ri) (.string rf)
  have C3n := set_box C3 (.bool rn) (.string ri) (.string rf)
  have HBn := Lib.hid (res_below HB.out (show w.heap.size ≤ V2.heap.size by omega) (.bool rn) (.string ri) (.string rf))
  have hsz : V6s.heap.size = V6.heap.size := by rw [hV6s]; simp [World.setCell]
  replace F2 : Hid (∀ i, V6s.frozen? ⟨V1.heap.size, i, none⟩ = false) := by have t := F2.out; show ∀ i, _; rw [hV6s]; intro i; simpa using t i
  replace F3 : Hid (∀ i, V6s.frozen? ⟨V2.heap.size, i, none⟩ = false) := by have t := F3.out; show ∀ i, _; rw [hV6s]; intro i; simpa using t i
  rw [← hV6s]
  rw [← hV6s] at HBn C0n C1n C2n C3n
  clear HB C0 C1 C2 C3 hV6s
  have HB := HBn
  clear HBn
  have C0 := C0n
  clear C0n
  replace z0 : w.heap.size + 1 ≤ V6s.heap.size := by omega
  have C1 := C1n
  clear C1n
  replace z1 : (w.heap.size + 1) + 1 ≤ V6s.heap.size := by omega
  have C2 := C2n
  clear C2n
  replace z2 : V1.heap.size + 1 ≤ V6s.heap.size := by omega
  have C3 := C3n
  clear C3n
  replace z3 : V2.heap.size + 1 ≤ V6s.heap.size := by omega
  clear hsz
  (with_reducible refine (DT.out _ _ _ _ _).mono ?_)
  rintro e V7 ⟨rfl, hb⟩
  replace F2 := Lib.hid (frozen_keep F2.out hb (by omega))
  replace F3 := Lib.hid (frozen_keep F3.out hb (by omega))
  replace C0 := C0.keep hb (by omega)
  replace z0 : w.heap.size + 1 ≤ V7.heap.size := by have := hb.size; omega
  replace C1 := C1.keep hb (by omega)
  replace z1 : (w.heap.size + 1) + 1 ≤ V7.heap.size := by have := hb.size; omega
  replace C2 := C2.keep hb (by omega)
  replace z2 : V1.heap.size + 1 ≤ V7.heap.size := by have := hb.size; omega
  replace C3 := C3.keep hb (by omega)
  replace z3 : V2.heap.size + 1 ≤ V7.heap.size := by have := hb.size; omega
  replace HB := Lib.hid (HB.out.trans (hb.mono HB.out.size))
  clear hb
  have o00 := C0.1
  have o10 := C1.1
  have o20 := C2.1
  have o30 := C3.1
  have o01 := C0.2.1
  have o02 := C0.2.2
  have o11 := C1.2.1
  have o12 := C1.2.2
  have o21 := C2.2.1
  have o22 := C2.2.2
  have o31 := C3.2.1
  have o32 := C3.2.2
  go_wp2
  go_ret
  exact ⟨rfl, HB.out⟩
end Go.Proofs.Ytmaljkjcibdbgaa
