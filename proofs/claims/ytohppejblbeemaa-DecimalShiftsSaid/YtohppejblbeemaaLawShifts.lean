/- DecimalShifts: moved there and back; noughts behind change no value. -/
import Derived.Test.YtohppejblbeemaaDFine
import Derived.Test.YtohppejblbeemaaDMoves
namespace Go.Proofs.Ytohppejblbeemaa
open Go.RowKit

theorem fine_one (n : Bool) (i f : ByteArray) (wx : World) (hi : i.size ≤ 140737488355328) (hf : f.size ≤ 140737488355328) :
    Calls Try.prog 40 #[.slice (some ⟨wx.heap.size, 0, none⟩) 1 1] (wx.alloc (.cells #[.bool n, .string i, .string f] 23)) fun e w' => e = .returned (.bool (okB n i f)) ∧ Below wx.heap.size wx w' := by
  refine (fine_any [(n, i, f)] wx.heap.size 1 23 (0, 0) _ (heap_alloc_new wx _) rfl (by omega) ?_).mono ?_
  · intro k hk
    obtain rfl : k = 0 := by omega
    exact ⟨hi, hf⟩
  · rintro e w' ⟨rfl, hb⟩
    exact ⟨by simp [okL], ((Below.refl _ _).alloc (Nat.le_refl _) _).trans (hb.mono (by simp))⟩

set_option maxHeartbeats 1000000 in
set_option maxRecDepth 100000 in
theorem shifts_bad (dn : Bool) (di df : ByteArray) (n k : Int) (w : World) (hi : di.size ≤ 140737488355328) (hf : df.size ≤ 140737488355328) (h : okB dn di df = false) :
    Calls Try.prog 12 #[.agg #[.bool dn, .string di, .string df], .int .i64 n, .int .i64 k] w fun e w' => e = .returned (.bool true) ∧ Below w.heap.size w w' := by
  have DW := Lib.hid awake_any
  have D1 := Lib.hid (fun wx => trim_bad dn di df wx hi hf h)
  have D2 : Hid (∀ (g : Nat) (wx : World), g = wx.heap.size → Calls Try.prog 40 #[.slice (some ⟨g, 0, none⟩) 1 1] (wx.alloc (.cells #[.bool dn, .string di, .string df] 23)) fun e w' => e = .returned (.bool false) ∧ Below wx.heap.size wx w') := by
    intro g wx hg
    subst hg
    have := fine_one dn di df wx hi hf
    rw [h] at this
    exact this
  clear h
  go_enter Try.func12, Try.ntmps12
  go_wp2_with fail
  obtain ⟨W0, hW0⟩ : ∃ W0, W0 = (w.alloc (.cells #[.bool dn, .string di, .string df] 23)) := ⟨_, rfl⟩
  obtain ⟨hB, hz, C0, _⟩ : Below w.heap.size w W0 ∧ w.heap.size + 1 ≤ W0.heap.size ∧ Cells3 W0 w.heap.size (.bool dn) (.string di) (.string df) ∧ ∀ i, W0.frozen? ⟨w.heap.size, i, none⟩ = false := by rw [hW0]; exact ⟨(Below.refl _ w).alloc (Nat.le_refl _) _, one_box w _ _ _ _⟩
  have z0 : w.heap.size + 1 ≤ W0.heap.size := by omega
  rw [← hW0]
  have HB := Lib.hid hB
  clear hW0 hB hz
  (with_reducible refine (DW.out _).mono ?_)
  rintro e V1 ⟨rfl, hb⟩
  replace C0 := C0.keep hb (by omega)
  replace z0 : w.heap.size + 1 ≤ V1.heap.size := by have := hb.size; omega
  replace HB := Lib.hid (HB.out.trans (hb.mono HB.out.size))
  clear hb
  have o00 := C0.1
  have o01 := C0.2.1
  have o02 := C0.2.2
  go_wp2_with fail
  clear o00 o01 o02
  (with_reducible refine (D1.out _).mono ?_)
  rintro e V2 ⟨rfl, hb⟩
  replace C0 := C0.keep hb (by omega)
  replace z0 : w.heap.size + 1 ≤ V2.heap.size := by have := hb.size; omega
  replace HB := Lib.hid (HB.out.trans (hb.mono HB.out.size))
  clear hb
  have ba : Below V2.heap.size V2 (V2.alloc (.cells #[.bool false, .string ⟨#[]⟩, .string ⟨#[]⟩] 23)) := (Below.refl _ _).alloc (Nat.le_refl _) _
  replace C0 := C0.keep ba (by omega)
  replace z0 : w.heap.size + 1 ≤ (V2.alloc (.cells #[.bool false, .string ⟨#[]⟩, .string ⟨#[]⟩] 23)).heap.size := by have := ba.size; omega
  replace HB := Lib.hid (HB.out.trans (ba.mono HB.out.size))
  clear ba
  have C1 : Cells3 (V2.alloc (.cells #[.bool false, .string ⟨#[]⟩, .string ⟨#[]⟩] 23)) V2.heap.size (.bool false) (.string ⟨#[]⟩) (.string ⟨#[]⟩) := (one_box V2 _ _ _ _).2.1
  have z1 : V2.heap.size + 1 ≤ (V2.alloc (.cells #[.bool false, .string ⟨#[]⟩, .string ⟨#[]⟩] 23)).heap.size := by simp
  have o00 := C0.1
  have o10 := C1.1
  have o01 := C0.2.1
  have o02 := C0.2.2
  have o11 := C1.2.1
  have o12 := C1.2.2
  go_wp2_with fail
  clear o00 o01 o02 o10 o11 o12
  obtain ⟨V2x, hV2x⟩ : ∃ V2x, V2x = V2.alloc (.cells #[.bool false, .string ⟨#[]⟩, .string ⟨#[]⟩] 23) := ⟨_, rfl⟩
  have HX := Lib.hid (show V2.heap.size + 1 = V2x.heap.size by rw [hV2x]; simp)
  rw [← hV2x]
  rw [← hV2x] at HB C0 z0 C1 z1
  clear hV2x
  (with_reducible refine (D2.out _ _ ?_).mono ?_)
  · exact HX.out
  rintro e V3 ⟨rfl, hb⟩
  replace C0 := C0.keep hb (by omega)
  replace z0 : w.heap.size + 1 ≤ V3.heap.size := by have := hb.size; omega
  replace C1 := C1.keep hb (by omega)
  replace z1 : V2.heap.size + 1 ≤ V3.heap.size := by have := hb.size; omega
  replace HB := Lib.hid (HB.out.trans (hb.mono HB.out.size))
  clear hb
  have o00 := C0.1
  have o10 := C1.1
  have o01 := C0.2.1
  have o02 := C0.2.2
  have o11 := C1.2.1
  have o12 := C1.2.2
  go_wp2
  go_ret
  exact ⟨rfl, HB.out⟩

set_option maxHeartbeats 4000000 in
set_option maxRecDepth 100000 in
theorem shifts_ee (dn tn : Bool) (di df ti tf : ByteArray) (n k : Int) (w : World) (c4 : Int) (c6 : Int) (H1 : ∀ wx : World, Calls Try.prog 34 #[(.agg #[.bool dn, .string di, .string df])] wx fun e w' => e = .returned (.tuple #[(.agg #[.bool tn, .string ti, .string tf]), .int .i64 0]) ∧ Below wx.heap.size wx w') (H2 : ∀ wx : World, Calls Try.prog 34 #[(.agg #[.bool tn, .string ti, .string tf])] wx fun e w' => e = .returned (.tuple #[(.agg #[.bool tn, .string ti, .string tf]), .int .i64 0]) ∧ Below wx.heap.size wx w') (H3 : ∀ wx : World, Calls Try.prog 41 #[(.agg #[.bool tn, .string ti, .string tf]), (.agg #[.bool dn, .string di, .string df])] wx fun e w' => e = .returned (.bool true) ∧ Below wx.heap.size wx w') (H4 : ∀ wx : World, Calls Try.prog 36 #[(.agg #[.bool dn, .string di, .string df]), .int .i64 k] wx fun e w' => e = .returned (.tuple #[(.agg #[.bool false, .string ⟨#[]⟩, .string ⟨#[]⟩]), .int .i64 c4]) ∧ Below wx.heap.size wx w') (H6 : ∀ wx : World, Calls Try.prog 38 #[(.agg #[.bool dn, .string di, .string df]), .int .i64 n] wx fun e w' => e = .returned (.tuple #[(.agg #[.bool false, .string ⟨#[]⟩, .string ⟨#[]⟩]), .int .i64 c6]) ∧ Below wx.heap.size wx w') (h4 : c4 ≠ 0) (h6 : c6 ≠ 0) :
    Calls Try.prog 12 #[(.agg #[.bool dn, .string di, .string df]), .int .i64 n, .int .i64 k] w fun e w' => e = .returned (.bool true) ∧ Below w.heap.size w w' := by
  have DW := Lib.hid awake_any
  have D1 := Lib.hid H1
  have D2 := Lib.hid H2
  have D3 := Lib.hid H3
  have D4 := Lib.hid H4
  have D6 := Lib.hid H6
  clear H1 H2 H3 H4 H6
  have q1 : (tn == tn) = true := beq_self_eq_true _
  have q2 : (ti.toList == ti.toList) = true := beq_self_eq_true _
  have q3 : (tf.toList == tf.toList) = true := beq_self_eq_true _
  have q4 : (c4 == 0) = false := by simpa using h4
  clear h4
  have q6 : (c6 != 0) = true := by simpa using h6
  clear h6
  go_enter Try.func12, Try.ntmps12
  go_wp2_with fail
  obtain ⟨W0, hW0⟩ : ∃ W0, W0 = (w.alloc (.cells #[.bool dn, .string di, .string df] 23)) := ⟨_, rfl⟩
  obtain ⟨hB, hz, C0, _⟩ : Below w.heap.size w W0 ∧ w.heap.size + 1 ≤ W0.heap.size ∧ Cells3 W0 w.heap.size (.bool dn) (.string di) (.string df) ∧ ∀ i, W0.frozen? ⟨w.heap.size, i, none⟩ = false := by rw [hW0]; exact ⟨(Below.refl _ w).alloc (Nat.le_refl _) _, one_box w _ _ _ _⟩
  have z0 : w.heap.size + 1 ≤ W0.heap.size := by omega
  rw [← hW0]
  have HB := Lib.hid hB
  clear hW0 hB hz
  (with_reducible refine (DW.out _).mono ?_)
  rintro e V1 ⟨rfl, hb⟩
  replace C0 := C0.keep hb (by omega)
  replace z0 : w.heap.size + 1 ≤ V1.heap.size := by have := hb.size; omega
  replace HB := Lib.hid (HB.out.trans (hb.mono HB.out.size))
  clear hb
  have o00 := C0.1
  have o01 := C0.2.1
  have o02 := C0.2.2
  go_wp2_with fail
  clear o00 o01 o02
  (with_reducible refine (D1.out _).mono ?_)
  rintro e V2 ⟨rfl, hb⟩
  replace C0 := C0.keep hb (by omega)
  replace z0 : w.heap.size + 1 ≤ V2.heap.size := by have := hb.size; omega
  replace HB := Lib.hid (HB.out.trans (hb.mono HB.out.size))
  clear hb
  have ba : Below V2.heap.size V2 (V2.alloc (.cells #[.bool tn, .string ti, .string tf] 23)) := (Below.refl _ _).alloc (Nat.le_refl _) _
  replace C0 := C0.keep ba (by omega)
  replace z0 : w.heap.size + 1 ≤ (V2.alloc (.cells #[.bool tn, .string ti, .string tf] 23)).heap.size := by have := ba.size; omega
  replace HB := Lib.hid (HB.out.trans (ba.mono HB.out.size))
  clear ba
  have C1 : Cells3 (V2.alloc (.cells #[.bool tn, .string ti, .string tf] 23)) V2.heap.size (.bool tn) (.string ti) (.string tf) := (one_box V2 _ _ _ _).2.1
  have z1 : V2.heap.size + 1 ≤ (V2.alloc (.cells #[.bool tn, .string ti, .string tf] 23)).heap.size := by simp
  have o00 := C0.1
  have o10 := C1.1
  have o01 := C0.2.1
  have o02 := C0.2.2
  have o11 := C1.2.1
  have o12 := C1.2.2
  go_wp2_with fail
  clear o00 o01 o02 o10 o11 o12
  obtain ⟨V2x, hV2x⟩ : ∃ V2x, V2x = V2.alloc (.cells #[.bool tn, .string ti, .string tf] 23) := ⟨_, rfl⟩
  have HX := Lib.hid (show V2.heap.size + 1 = V2x.heap.size by rw [hV2x]; simp)
  rw [← hV2x]
  rw [← hV2x] at HB C0 z0 C1 z1
  clear hV2x
  (with_reducible refine (D2.out _).mono ?_)
  rintro e V3 ⟨rfl, hb⟩
  replace C0 := C0.keep hb (by omega)
  replace z0 : w.heap.size + 1 ≤ V3.heap.size := by have := hb.size; omega
  replace C1 := C1.keep hb (by omega)
  replace z1 : V2.heap.size + 1 ≤ V3.heap.size := by have := hb.size; omega
  replace HB := Lib.hid (HB.out.trans (hb.mono HB.out.size))
  clear hb
  have ba : Below V3.heap.size V3 (V3.alloc (.cells #[.bool tn, .string ti, .string tf] 23)) := (Below.refl _ _).alloc (Nat.le_refl _) _
  replace C0 := C0.keep ba (by omega)
  replace z0 : w.heap.size + 1 ≤ (V3.alloc (.cells #[.bool tn, .string ti, .string tf] 23)).heap.size := by have := ba.size; omega
  replace C1 := C1.keep ba (by omega)
  replace z1 : V2.heap.size + 1 ≤ (V3.alloc (.cells #[.bool tn, .string ti, .string tf] 23)).heap.size := by have := ba.size; omega
  replace HB := Lib.hid (HB.out.trans (ba.mono HB.out.size))
  clear ba
  have C2 : Cells3 (V3.alloc (.cells #[.bool tn, .string ti, .string tf] 23)) V3.heap.size (.bool tn) (.string ti) (.string tf) := (one_box V3 _ _ _ _).2.1
  have z2 : V3.heap.size + 1 ≤ (V3.alloc (.cells #[.bool tn, .string ti, .string tf] 23)).heap.size := by simp
  have o00 := C0.1
  have o10 := C1.1
  have o20 := C2.1
  have o01 := C0.2.1
  have o02 := C0.2.2
  have o11 := C1.2.1
  have o12 := C1.2.2
  have o21 := C2.2.1
  have o22 := C2.2.2
  go_wp2_with fail
  clear o00 o01 o02 o10 o11 o12 o20 o21 o22
  obtain ⟨V3x, hV3x⟩ : ∃ V3x, V3x = V3.alloc (.cells #[.bool tn, .string ti, .string tf] 23) := ⟨_, rfl⟩
  have HX := Lib.hid (show V3.heap.size + 1 = V3x.heap.size by rw [hV3x]; simp)
  rw [← hV3x]
  rw [← hV3x] at HB C0 z0 C1 z1 C2 z2
  clear hV3x
  (with_reducible refine (D3.out _).mono ?_)
  rintro e V4 ⟨rfl, hb⟩
  replace C0 := C0.keep hb (by omega)
  replace z0 : w.heap.size + 1 ≤ V4.heap.size := by have := hb.size; omega
  replace C1 := C1.keep hb (by omega)
  replace z1 : V2.heap.size + 1 ≤ V4.heap.size := by have := hb.size; omega
  replace C2 := C2.keep hb (by omega)
  replace z2 : V3.heap.size + 1 ≤ V4.heap.size := by have := hb.size; omega
  replace HB := Lib.hid (HB.out.trans (hb.mono HB.out.size))
  clear hb
  have o00 := C0.1
  have o10 := C1.1
  have o20 := C2.1
  have o01 := C0.2.1
  have o02 := C0.2.2
  have o11 := C1.2.1
  have o12 := C1.2.2
  have o21 := C2.2.1
  have o22 := C2.2.2
  go_wp2_with fail
  clear o00 o01 o02 o10 o11 o12 o20 o21 o22
  (with_reducible refine (D4.out _).mono ?_)
  rintro e V5 ⟨rfl, hb⟩
  replace C0 := C0.keep hb (by omega)
  replace z0 : w.heap.size + 1 ≤ V5.heap.size := by have := hb.size; omega
  replace C1 := C1.keep hb (by omega)
  replace z1 : V2.heap.size + 1 ≤ V5.heap.size := by have := hb.size; omega
  replace C2 := C2.keep hb (by omega)
  replace z2 : V3.heap.size + 1 ≤ V5.heap.size := by have := hb.size; omega
  replace HB := Lib.hid (HB.out.trans (hb.mono HB.out.size))
  clear hb
  have ba : Below V5.heap.size V5 (V5.alloc (.cells #[.bool false, .string ⟨#[]⟩, .string ⟨#[]⟩] 23)) := (Below.refl _ _).alloc (Nat.le_refl _) _
  replace C0 := C0.keep ba (by omega)
  replace z0 : w.heap.size + 1 ≤ (V5.alloc (.cells #[.bool false, .string ⟨#[]⟩, .string ⟨#[]⟩] 23)).heap.size := by have := ba.size; omega
  replace C1 := C1.keep ba (by omega)
  replace z1 : V2.heap.size + 1 ≤ (V5.alloc (.cells #[.bool false, .string ⟨#[]⟩, .string ⟨#[]⟩] 23)).heap.size := by have := ba.size; omega
  replace C2 := C2.keep ba (by omega)
  replace z2 : V3.heap.size + 1 ≤ (V5.alloc (.cells #[.bool false, .string ⟨#[]⟩, .string ⟨#[]⟩] 23)).heap.size := by have := ba.size; omega
  replace HB := Lib.hid (HB.out.trans (ba.mono HB.out.size))
  clear ba
  have C3 : Cells3 (V5.alloc (.cells #[.bool false, .string ⟨#[]⟩, .string ⟨#[]⟩] 23)) V5.heap.size (.bool false) (.string ⟨#[]⟩) (.string ⟨#[]⟩) := (one_box V5 _ _ _ _).2.1
  have z3 : V5.heap.size + 1 ≤ (V5.alloc (.cells #[.bool false, .string ⟨#[]⟩, .string ⟨#[]⟩] 23)).heap.size := by simp
  have o00 := C0.1
  have o10 := C1.1
  have o20 := C2.1
  have o30 := C3.1
  have o01 := C0.2.1
  have o02 := C0.2.2
  have o11 := C1.2.1
  have o12 := C1.2.2
  have o21 := C2.2.1
  have o22 := C2.2.2
  have o31 := C3.2.1
  have o32 := C3.2.2
  go_wp2_with fail
  clear o00 o01 o02 o10 o11 o12 o20 o21 o22 o30 o31 o32
  obtain ⟨V5x, hV5x⟩ : ∃ V5x, V5x = V5.alloc (.cells #[.bool false, .string ⟨#[]⟩, .string ⟨#[]⟩] 23) := ⟨_, rfl⟩
  have HX := Lib.hid (show V5.heap.size + 1 = V5x.heap.size by rw [hV5x]; simp)
  rw [← hV5x]
  rw [← hV5x] at HB C0 z0 C1 z1 C2 z2 C3 z3
  clear hV5x
  (with_reducible refine (D6.out _).mono ?_)
  rintro e V6 ⟨rfl, hb⟩
  replace C0 := C0.keep hb (by omega)
  replace z0 : w.heap.size + 1 ≤ V6.heap.size := by have := hb.size; omega
  replace C1 := C1.keep hb (by omega)
  replace z1 : V2.heap.size + 1 ≤ V6.heap.size := by have := hb.size; omega
  replace C2 := C2.keep hb (by omega)
  replace z2 : V3.heap.size + 1 ≤ V6.heap.size := by have := hb.size; omega
  replace C3 := C3.keep hb (by omega)
  replace z3 : V5.heap.size + 1 ≤ V6.heap.size := by have := hb.size; omega
  replace HB := Lib.hid (HB.out.trans (hb.mono HB.out.size))
  clear hb
  have ba : Below V6.heap.size V6 (V6.alloc (.cells #[.bool false, .string ⟨#[]⟩, .string ⟨#[]⟩] 23)) := (Below.refl _ _).alloc (Nat.le_refl _) _
  replace C0 := C0.keep ba (by omega)
  replace z0 : w.heap.size + 1 ≤ (V6.alloc (.cells #[.bool false, .string ⟨#[]⟩, .string ⟨#[]⟩] 23)).heap.size := by have := ba.size; omega
  replace C1 := C1.keep ba (by omega)
  replace z1 : V2.heap.size + 1 ≤ (V6.alloc (.cells #[.bool false, .string ⟨#[]⟩, .string ⟨#[]⟩] 23)).heap.size := by have := ba.size; omega
  replace C2 := C2.keep ba (by omega)
  replace z2 : V3.heap.size + 1 ≤ (V6.alloc (.cells #[.bool false, .string ⟨#[]⟩, .string ⟨#[]⟩] 23)).heap.size := by have := ba.size; omega
  replace C3 := C3.keep ba (by omega)
  replace z3 : V5.heap.size + 1 ≤ (V6.alloc (.cells #[.bool false, .string ⟨#[]⟩, .string ⟨#[]⟩] 23)).heap.size := by have := ba.size; omega
  replace HB := Lib.hid (HB.out.trans (ba.mono HB.out.size))
  clear ba
  have C4 : Cells3 (V6.alloc (.cells #[.bool false, .string ⟨#[]⟩, .string ⟨#[]⟩] 23)) V6.heap.size (.bool false) (.string ⟨#[]⟩) (.string ⟨#[]⟩) := (one_box V6 _ _ _ _).2.1
  have z4 : V6.heap.size + 1 ≤ (V6.alloc (.cells #[.bool false, .string ⟨#[]⟩, .string ⟨#[]⟩] 23)).heap.size := by simp
  have o00 := C0.1
  have o10 := C1.1
  have o20 := C2.1
  have o30 := C3.1
  have o40 := C4.1
  have o01 := C0.2.1
  have o02 := C0.2.2
  have o11 := C1.2.1
  have o12 := C1.2.2
  have o21 := C2.2.1
  have o22 := C2.2.2
  have o31 := C3.2.1
  have o32 := C3.2.2
  have o41 := C4.2.1
  have o42 := C4.2.2
  go_wp2
  go_ret
  exact ⟨rfl, HB.out⟩

set_option maxHeartbeats 4000000 in
set_option maxRecDepth 100000 in
theorem shifts_e1 (dn tn : Bool) (di df ti tf : ByteArray) (n k : Int) (w : World) (hn2 : n ≤ 9223372036854775807) (c4 : Int) (xn : Bool) (xi xf : ByteArray) (c7 : Int) (H1 : ∀ wx : World, Calls Try.prog 34 #[(.agg #[.bool dn, .string di, .string df])] wx fun e w' => e = .returned (.tuple #[(.agg #[.bool tn, .string ti, .string tf]), .int .i64 0]) ∧ Below wx.heap.size wx w') (H2 : ∀ wx : World, Calls Try.prog 34 #[(.agg #[.bool tn, .string ti, .string tf])] wx fun e w' => e = .returned (.tuple #[(.agg #[.bool tn, .string ti, .string tf]), .int .i64 0]) ∧ Below wx.heap.size wx w') (H3 : ∀ wx : World, Calls Try.prog 41 #[(.agg #[.bool tn, .string ti, .string tf]), (.agg #[.bool dn, .string di, .string df])] wx fun e w' => e = .returned (.bool true) ∧ Below wx.heap.size wx w') (H4 : ∀ wx : World, Calls Try.prog 36 #[(.agg #[.bool dn, .string di, .string df]), .int .i64 k] wx fun e w' => e = .returned (.tuple #[(.agg #[.bool false, .string ⟨#[]⟩, .string ⟨#[]⟩]), .int .i64 c4]) ∧ Below wx.heap.size wx w') (H6 : ∀ wx : World, Calls Try.prog 38 #[(.agg #[.bool dn, .string di, .string df]), .int .i64 n] wx fun e w' => e = .returned (.tuple #[(.agg #[.bool xn, .string xi, .string xf]), .int .i64 0]) ∧ Below wx.heap.size wx w') (H7 : ∀ wx : World, Calls Try.prog 38 #[(.agg #[.bool xn, .string xi, .string xf]), .int .i64 (-n)] wx fun e w' => e = .returned (.tuple #[(.agg #[.bool false, .string ⟨#[]⟩, .string ⟨#[]⟩]), .int .i64 c7]) ∧ Below wx.heap.size wx w') (h4 : c4 ≠ 0) (hnr : -9223372036854775808 < n) (h7 : c7 ≠ 0) :
    Calls Try.prog 12 #[(.agg #[.bool dn, .string di, .string df]), .int .i64 n, .int .i64 k] w fun e w' => e = .returned (.bool true) ∧ Below w.heap.size w w' := by
  have DW := Lib.hid awake_any
  have D1 := Lib.hid H1
  have D2 := Lib.hid H2
  have D3 := Lib.hid H3
  have D4 := Lib.hid H4
  have D6 := Lib.hid H6
  have D7 := Lib.hid H7
  clear H1 H2 H3 H4 H6 H7
  have q1 : (tn == tn) = true := beq_self_eq_true _
  have q2 : (ti.toList == ti.toList) = true := beq_self_eq_true _
  have q3 : (tf.toList == tf.toList) = true := beq_self_eq_true _
  have q4 : (c4 == 0) = false := by simpa using h4
  clear h4
  have q7 : (c7 != 0) = true := by simpa using h7
  clear h7
  go_enter Try.func12, Try.ntmps12
  go_wp2_with fail
  obtain ⟨W0, hW0⟩ : ∃ W0, W0 = (w.alloc (.cells #[.bool dn, .string di, .string df] 23)) := ⟨_, rfl⟩
  obtain ⟨hB, hz, C0, _⟩ : Below w.heap.size w W0 ∧ w.heap.size + 1 ≤ W0.heap.size ∧ Cells3 W0 w.heap.size (.bool dn) (.string di) (.string df) ∧ ∀ i, W0.frozen? ⟨w.heap.size, i, none⟩ = false := by rw [hW0]; exact ⟨(Below.refl _ w).alloc (Nat.le_refl _) _, one_box w _ _ _ _⟩
  have z0 : w.heap.size + 1 ≤ W0.heap.size := by omega
  rw [← hW0]
  have HB := Lib.hid hB
  clear hW0 hB hz
  (with_reducible refine (DW.out _).mono ?_)
  rintro e V1 ⟨rfl, hb⟩
  replace C0 := C0.keep hb (by omega)
  replace z0 : w.heap.size + 1 ≤ V1.heap.size := by have := hb.size; omega
  replace HB := Lib.hid (HB.out.trans (hb.mono HB.out.size))
  clear hb
  have o00 := C0.1
  have o01 := C0.2.1
  have o02 := C0.2.2
  go_wp2_with fail
  clear o00 o01 o02
  (with_reducible refine (D1.out _).mono ?_)
  rintro e V2 ⟨rfl, hb⟩
  replace C0 := C0.keep hb (by omega)
  replace z0 : w.heap.size + 1 ≤ V2.heap.size := by have := hb.size; omega
  replace HB := Lib.hid (HB.out.trans (hb.mono HB.out.size))
  clear hb
  have ba : Below V2.heap.size V2 (V2.alloc (.cells #[.bool tn, .string ti, .string tf] 23)) := (Below.refl _ _).alloc (Nat.le_refl _) _
  replace C0 := C0.keep ba (by omega)
  replace z0 : w.heap.size + 1 ≤ (V2.alloc (.cells #[.bool tn, .string ti, .string tf] 23)).heap.size := by have := ba.size; omega
  replace HB := Lib.hid (HB.out.trans (ba.mono HB.out.size))
  clear ba
  have C1 : Cells3 (V2.alloc (.cells #[.bool tn, .string ti, .string tf] 23)) V2.heap.size (.bool tn) (.string ti) (.string tf) := (one_box V2 _ _ _ _).2.1
  have z1 : V2.heap.size + 1 ≤ (V2.alloc (.cells #[.bool tn, .string ti, .string tf] 23)).heap.size := by simp
  have o00 := C0.1
  have o10 := C1.1
  have o01 := C0.2.1
  have o02 := C0.2.2
  have o11 := C1.2.1
  have o12 := C1.2.2
  go_wp2_with fail
  clear o00 o01 o02 o10 o11 o12
  obtain ⟨V2x, hV2x⟩ : ∃ V2x, V2x = V2.alloc (.cells #[.bool tn, .string ti, .string tf] 23) := ⟨_, rfl⟩
  have HX := Lib.hid (show V2.heap.size + 1 = V2x.heap.size by rw [hV2x]; simp)
  rw [← hV2x]
  rw [← hV2x] at HB C0 z0 C1 z1
  clear hV2x
  (with_reducible refine (D2.out _).mono ?_)
  rintro e V3 ⟨rfl, hb⟩
  replace C0 := C0.keep hb (by omega)
  replace z0 : w.heap.size + 1 ≤ V3.heap.size := by have := hb.size; omega
  replace C1 := C1.keep hb (by omega)
  replace z1 : V2.heap.size + 1 ≤ V3.heap.size := by have := hb.size; omega
  replace HB := Lib.hid (HB.out.trans (hb.mono HB.out.size))
  clear hb
  have ba : Below V3.heap.size V3 (V3.alloc (.cells #[.bool tn, .string ti, .string tf] 23)) := (Below.refl _ _).alloc (Nat.le_refl _) _
  replace C0 := C0.keep ba (by omega)
  replace z0 : w.heap.size + 1 ≤ (V3.alloc (.cells #[.bool tn, .string ti, .string tf] 23)).heap.size := by have := ba.size; omega
  replace C1 := C1.keep ba (by omega)
  replace z1 : V2.heap.size + 1 ≤ (V3.alloc (.cells #[.bool tn, .string ti, .string tf] 23)).heap.size := by have := ba.size; omega
  replace HB := Lib.hid (HB.out.trans (ba.mono HB.out.size))
  clear ba
  have C2 : Cells3 (V3.alloc (.cells #[.bool tn, .string ti, .string tf] 23)) V3.heap.size (.bool tn) (.string ti) (.string tf) := (one_box V3 _ _ _ _).2.1
  have z2 : V3.heap.size + 1 ≤ (V3.alloc (.cells #[.bool tn, .string ti, .string tf] 23)).heap.size := by simp
  have o00 := C0.1
  have o10 := C1.1
  have o20 := C2.1
  have o01 := C0.2.1
  have o02 := C0.2.2
  have o11 := C1.2.1
  have o12 := C1.2.2
  have o21 := C2.2.1
  have o22 := C2.2.2
  go_wp2_with fail
  clear o00 o01 o02 o10 o11 o12 o20 o21 o22
  obtain ⟨V3x, hV3x⟩ : ∃ V3x, V3x = V3.alloc (.cells #[.bool tn, .string ti, .string tf] 23) := ⟨_, rfl⟩
  have HX := Lib.hid (show V3.heap.size + 1 = V3x.heap.size by rw [hV3x]; simp)
  rw [← hV3x]
  rw [← hV3x] at HB C0 z0 C1 z1 C2 z2
  clear hV3x
  (with_reducible refine (D3.out _).mono ?_)
  rintro e V4 ⟨rfl, hb⟩
  replace C0 := C0.keep hb (by omega)
  replace z0 : w.heap.size + 1 ≤ V4.heap.size := by have := hb.size; omega
  replace C1 := C1.keep hb (by omega)
  replace z1 : V2.heap.size + 1 ≤ V4.heap.size := by have := hb.size; omega
  replace C2 := C2.keep hb (by omega)
  replace z2 : V3.heap.size + 1 ≤ V4.heap.size := by have := hb.size; omega
  replace HB := Lib.hid (HB.out.trans (hb.mono HB.out.size))
  clear hb
  have o00 := C0.1
  have o10 := C1.1
  have o20 := C2.1
  have o01 := C0.2.1
  have o02 := C0.2.2
  have o11 := C1.2.1
  have o12 := C1.2.2
  have o21 := C2.2.1
  have o22 := C2.2.2
  go_wp2_with fail
  clear o00 o01 o02 o10 o11 o12 o20 o21 o22
  (with_reducible refine (D4.out _).mono ?_)
  rintro e V5 ⟨rfl, hb⟩
  replace C0 := C0.keep hb (by omega)
  replace z0 : w.heap.size + 1 ≤ V5.heap.size := by have := hb.size; omega
  replace C1 := C1.keep hb (by omega)
  replace z1 : V2.heap.size + 1 ≤ V5.heap.size := by have := hb.size; omega
  replace C2 := C2.keep hb (by omega)
  replace z2 : V3.heap.size + 1 ≤ V5.heap.size := by have := hb.size; omega
  replace HB := Lib.hid (HB.out.trans (hb.mono HB.out.size))
  clear hb
  have ba : Below V5.heap.size V5 (V5.alloc (.cells #[.bool false, .string ⟨#[]⟩, .string ⟨#[]⟩] 23)) := (Below.refl _ _).alloc (Nat.le_refl _) _
  replace C0 := C0.keep ba (by omega)
  replace z0 : w.heap.size + 1 ≤ (V5.alloc (.cells #[.bool false, .string ⟨#[]⟩, .string ⟨#[]⟩] 23)).heap.size := by have := ba.size; omega
  replace C1 := C1.keep ba (by omega)
  replace z1 : V2.heap.size + 1 ≤ (V5.alloc (.cells #[.bool false, .string ⟨#[]⟩, .string ⟨#[]⟩] 23)).heap.size := by have := ba.size; omega
  replace C2 := C2.keep ba (by omega)
  replace z2 : V3.heap.size + 1 ≤ (V5.alloc (.cells #[.bool false, .string ⟨#[]⟩, .string ⟨#[]⟩] 23)).heap.size := by have := ba.size; omega
  replace HB := Lib.hid (HB.out.trans (ba.mono HB.out.size))
  clear ba
  have C3 : Cells3 (V5.alloc (.cells #[.bool false, .string ⟨#[]⟩, .string ⟨#[]⟩] 23)) V5.heap.size (.bool false) (.string ⟨#[]⟩) (.string ⟨#[]⟩) := (one_box V5 _ _ _ _).2.1
  have z3 : V5.heap.size + 1 ≤ (V5.alloc (.cells #[.bool false, .string ⟨#[]⟩, .string ⟨#[]⟩] 23)).heap.size := by simp
  have o00 := C0.1
  have o10 := C1.1
  have o20 := C2.1
  have o30 := C3.1
  have o01 := C0.2.1
  have o02 := C0.2.2
  have o11 := C1.2.1
  have o12 := C1.2.2
  have o21 := C2.2.1
  have o22 := C2.2.2
  have o31 := C3.2.1
  have o32 := C3.2.2
  go_wp2_with fail
  clear o00 o01 o02 o10 o11 o12 o20 o21 o22 o30 o31 o32
  obtain ⟨V5x, hV5x⟩ : ∃ V5x, V5x = V5.alloc (.cells #[.bool false, .string ⟨#[]⟩, .string ⟨#[]⟩] 23) := ⟨_, rfl⟩
  have HX := Lib.hid (show V5.heap.size + 1 = V5x.heap.size by rw [hV5x]; simp)
  rw [← hV5x]
  rw [← hV5x] at HB C0 z0 C1 z1 C2 z2 C3 z3
  clear hV5x
  (with_reducible refine (D6.out _).mono ?_)
  rintro e V6 ⟨rfl, hb⟩
  replace C0 := C0.keep hb (by omega)
  replace z0 : w.heap.size + 1 ≤ V6.heap.size := by have := hb.size; omega
  replace C1 := C1.keep hb (by omega)
  replace z1 : V2.heap.size + 1 ≤ V6.heap.size := by have := hb.size; omega
  replace C2 := C2.keep hb (by omega)
  replace z2 : V3.heap.size + 1 ≤ V6.heap.size := by have := hb.size; omega
  replace C3 := C3.keep hb (by omega)
  replace z3 : V5.heap.size + 1 ≤ V6.heap.size := by have := hb.size; omega
  replace HB := Lib.hid (HB.out.trans (hb.mono HB.out.size))
  clear hb
  have ba : Below V6.heap.size V6 (V6.alloc (.cells #[.bool xn, .string xi, .string xf] 23)) := (Below.refl _ _).alloc (Nat.le_refl _) _
  replace C0 := C0.keep ba (by omega)
  replace z0 : w.heap.size + 1 ≤ (V6.alloc (.cells #[.bool xn, .string xi, .string xf] 23)).heap.size := by have := ba.size; omega
  replace C1 := C1.keep ba (by omega)
  replace z1 : V2.heap.size + 1 ≤ (V6.alloc (.cells #[.bool xn, .string xi, .string xf] 23)).heap.size := by have := ba.size; omega
  replace C2 := C2.keep ba (by omega)
  replace z2 : V3.heap.size + 1 ≤ (V6.alloc (.cells #[.bool xn, .string xi, .string xf] 23)).heap.size := by have := ba.size; omega
  replace C3 := C3.keep ba (by omega)
  replace z3 : V5.heap.size + 1 ≤ (V6.alloc (.cells #[.bool xn, .string xi, .string xf] 23)).heap.size := by have := ba.size; omega
  replace HB := Lib.hid (HB.out.trans (ba.mono HB.out.size))
  clear ba
  have C4 : Cells3 (V6.alloc (.cells #[.bool xn, .string xi, .string xf] 23)) V6.heap.size (.bool xn) (.string xi) (.string xf) := (one_box V6 _ _ _ _).2.1
  have z4 : V6.heap.size + 1 ≤ (V6.alloc (.cells #[.bool xn, .string xi, .string xf] 23)).heap.size := by simp
  have o00 := C0.1
  have o10 := C1.1
  have o20 := C2.1
  have o30 := C3.1
  have o40 := C4.1
  have o01 := C0.2.1
  have o02 := C0.2.2
  have o11 := C1.2.1
  have o12 := C1.2.2
  have o21 := C2.2.1
  have o22 := C2.2.2
  have o31 := C3.2.1
  have o32 := C3.2.2
  have o41 := C4.2.1
  have o42 := C4.2.2
  go_wp2_with fail
  clear o00 o01 o02 o10 o11 o12 o20 o21 o22 o30 o31 o32 o40 o41 o42
  obtain ⟨V6x, hV6x⟩ : ∃ V6x, V6x = V6.alloc (.cells #[.bool xn, .string xi, .string xf] 23) := ⟨_, rfl⟩
  have HX := Lib.hid (show V6.heap.size + 1 = V6x.heap.size by rw [hV6x]; simp)
  rw [← hV6x]
  rw [← hV6x] at HB C0 z0 C1 z1 C2 z2 C3 z3 C4 z4
  clear hV6x
  (with_reducible refine (D7.out _).mono ?_)
  rintro e V7 ⟨rfl, hb⟩
  replace C0 := C0.keep hb (by omega)
  replace z0 : w.heap.size + 1 ≤ V7.heap.size := by have := hb.size; omega
  replace C1 := C1.keep hb (by omega)
  replace z1 : V2.heap.size + 1 ≤ V7.heap.size := by have := hb.size; omega
  replace C2 := C2.keep hb (by omega)
  replace z2 : V3.heap.size + 1 ≤ V7.heap.size := by have := hb.size; omega
  replace C3 := C3.keep hb (by omega)
  replace z3 : V5.heap.size + 1 ≤ V7.heap.size := by have := hb.size; omega
  replace C4 := C4.keep hb (by omega)
  replace z4 : V6.heap.size + 1 ≤ V7.heap.size := by have := hb.size; omega
  replace HB := Lib.hid (HB.out.trans (hb.mono HB.out.size))
  clear hb
  have ba : Below V7.heap.size V7 (V7.alloc (.cells #[.bool false, .string ⟨#[]⟩, .string ⟨#[]⟩] 23)) := (Below.refl _ _).alloc (Nat.le_refl _) _
  replace C0 := C0.keep ba (by omega)
  replace z0 : w.heap.size + 1 ≤ (V7.alloc (.cells #[.bool false, .string ⟨#[]⟩, .string ⟨#[]⟩] 23)).heap.size := by have := ba.size; omega
  replace C1 := C1.keep ba (by omega)
  replace z1 : V2.heap.size + 1 ≤ (V7.alloc (.cells #[.bool false, .string ⟨#[]⟩, .string ⟨#[]⟩] 23)).heap.size := by have := ba.size; omega
  replace C2 := C2.keep ba (by omega)
  replace z2 : V3.heap.size + 1 ≤ (V7.alloc (.cells #[.bool false, .string ⟨#[]⟩, .string ⟨#[]⟩] 23)).heap.size := by have := ba.size; omega
  replace C3 := C3.keep ba (by omega)
  replace z3 : V5.heap.size + 1 ≤ (V7.alloc (.cells #[.bool false, .string ⟨#[]⟩, .string ⟨#[]⟩] 23)).heap.size := by have := ba.size; omega
  replace C4 := C4.keep ba (by omega)
  replace z4 : V6.heap.size + 1 ≤ (V7.alloc (.cells #[.bool false, .string ⟨#[]⟩, .string ⟨#[]⟩] 23)).heap.size := by have := ba.size; omega
  replace HB := Lib.hid (HB.out.trans (ba.mono HB.out.size))
  clear ba
  have C5 : Cells3 (V7.alloc (.cells #[.bool false, .string ⟨#[]⟩, .string ⟨#[]⟩] 23)) V7.heap.size (.bool false) (.string ⟨#[]⟩) (.string ⟨#[]⟩) := (one_box V7 _ _ _ _).2.1
  have z5 : V7.heap.size + 1 ≤ (V7.alloc (.cells #[.bool false, .string ⟨#[]⟩, .string ⟨#[]⟩] 23)).heap.size := by simp
  have o00 := C0.1
  have o10 := C1.1
  have o20 := C2.1
  have o30 := C3.1
  have o40 := C4.1
  have o50 := C5.1
  have o01 := C0.2.1
  have o02 := C0.2.2
  have o11 := C1.2.1
  have o12 := C1.2.2
  have o21 := C2.2.1
  have o22 := C2.2.2
  have o31 := C3.2.1
  have o32 := C3.2.2
  have o41 := C4.2.1
  have o42 := C4.2.2
  have o51 := C5.2.1
  have o52 := C5.2.2
  go_wp2
  go_ret
  exact ⟨rfl, HB.out⟩

set_option maxHeartbeats 4000000 in
set_option maxRecDepth 100000 in
theorem shifts_e2 (dn tn : Bool) (di df ti tf : ByteArray) (n k : Int) (w : World) (hn2 : n ≤ 9223372036854775807) (c4 : Int) (xn : Bool) (xi xf : ByteArray) (yn : Bool) (yi yf : ByteArray) (H1 : ∀ wx : World, Calls Try.prog 34 #[(.agg #[.bool dn, .string di, .string df])] wx fun e w' => e = .returned (.tuple #[(.agg #[.bool tn, .string ti, .string tf]), .int .i64 0]) ∧ Below wx.heap.size wx w') (H2 : ∀ wx : World, Calls Try.prog 34 #[(.agg #[.bool tn, .string ti, .string tf])] wx fun e w' => e = .returned (.tuple #[(.agg #[.bool tn, .string ti, .string tf]), .int .i64 0]) ∧ Below wx.heap.size wx w') (H3 : ∀ wx : World, Calls Try.prog 41 #[(.agg #[.bool tn, .string ti, .string tf]), (.agg #[.bool dn, .string di, .string df])] wx fun e w' => e = .returned (.bool true) ∧ Below wx.heap.size wx w') (H4 : ∀ wx : World, Calls Try.prog 36 #[(.agg #[.bool dn, .string di, .string df]), .int .i64 k] wx fun e w' => e = .returned (.tuple #[(.agg #[.bool false, .string ⟨#[]⟩, .string ⟨#[]⟩]), .int .i64 c4]) ∧ Below wx.heap.size wx w') (H6 : ∀ wx : World, Calls Try.prog 38 #[(.agg #[.bool dn, .string di, .string df]), .int .i64 n] wx fun e w' => e = .returned (.tuple #[(.agg #[.bool xn, .string xi, .string xf]), .int .i64 0]) ∧ Below wx.heap.size wx w') (H7 : ∀ wx : World, Calls Try.prog 38 #[(.agg #[.bool xn, .string xi, .string xf]), .int .i64 (-n)] wx fun e w' => e = .returned (.tuple #[(.agg #[.bool yn, .string yi, .string yf]), .int .i64 0]) ∧ Below wx.heap.size wx w') (H8 : ∀ wx : World, Calls Try.prog 41 #[(.agg #[.bool yn, .string yi, .string yf]), (.agg #[.bool dn, .string di, .string df])] wx fun e w' => e = .returned (.bool true) ∧ Below wx.heap.size wx w') (h4 : c4 ≠ 0) (hnr : -9223372036854775808 < n) :
    Calls Try.prog 12 #[(.agg #[.bool dn, .string di, .string df]), .int .i64 n, .int .i64 k] w fun e w' => e = .returned (.bool true) ∧ Below w.heap.size w w' := by
  have DW := Lib.hid awake_any
  have D1 := Lib.hid H1
  have D2 := Lib.hid H2
  have D3 := Lib.hid H3
  have D4 := Lib.hid H4
  have D6 := Lib.hid H6
  have D7 := Lib.hid H7
  have D8 := Lib.hid H8
  clear H1 H2 H3 H4 H6 H7 H8
  have q1 : (tn == tn) = true := beq_self_eq_true _
  have q2 : (ti.toList == ti.toList) = true := beq_self_eq_true _
  have q3 : (tf.toList == tf.toList) = true := beq_self_eq_true _
  have q4 : (c4 == 0) = false := by simpa using h4
  clear h4
  go_enter Try.func12, Try.ntmps12
  go_wp2_with fail
  obtain ⟨W0, hW0⟩ : ∃ W0, W0 = (w.alloc (.cells #[.bool dn, .string di, .string df] 23)) := ⟨_, rfl⟩
  obtain ⟨hB, hz, C0, _⟩ : Below w.heap.size w W0 ∧ w.heap.size + 1 ≤ W0.heap.size ∧ Cells3 W0 w.heap.size (.bool dn) (.string di) (.string df) ∧ ∀ i, W0.frozen? ⟨w.heap.size, i, none⟩ = false := by rw [hW0]; exact ⟨(Below.refl _ w).alloc (Nat.le_refl _) _, one_box w _ _ _ _⟩
  have z0 : w.heap.size + 1 ≤ W0.heap.size := by omega
  rw [← hW0]
  have HB := Lib.hid hB
  clear hW0 hB hz
  (with_reducible refine (DW.out _).mono ?_)
  rintro e V1 ⟨rfl, hb⟩
  replace C0 := C0.keep hb (by omega)
  replace z0 : w.heap.size + 1 ≤ V1.heap.size := by have := hb.size; omega
  replace HB := Lib.hid (HB.out.trans (hb.mono HB.out.size))
  clear hb
  have o00 := C0.1
  have o01 := C0.2.1
  have o02 := C0.2.2
  go_wp2_with fail
  clear o00 o01 o02
  (with_reducible refine (D1.out _).mono ?_)
  rintro e V2 ⟨rfl, hb⟩
  replace C0 := C0.keep hb (by omega)
  replace z0 : w.heap.size + 1 ≤ V2.heap.size := by have := hb.size; omega
  replace HB := Lib.hid (HB.out.trans (hb.mono HB.out.size))
  clear hb
  have ba : Below V2.heap.size V2 (V2.alloc (.cells #[.bool tn, .string ti, .string tf] 23)) := (Below.refl _ _).alloc (Nat.le_refl _) _
  replace C0 := C0.keep ba (by omega)
  replace z0 : w.heap.size + 1 ≤ (V2.alloc (.cells #[.bool tn, .string ti, .string tf] 23)).heap.size := by have := ba.size; omega
  replace HB := Lib.hid (HB.out.trans (ba.mono HB.out.size))
  clear ba
  have C1 : Cells3 (V2.alloc (.cells #[.bool tn, .string ti, .string tf] 23)) V2.heap.size (.bool tn) (.string ti) (.string tf) := (one_box V2 _ _ _ _).2.1
  have z1 : V2.heap.size + 1 ≤ (V2.alloc (.cells #[.bool tn, .string ti, .string tf] 23)).heap.size := by simp
  have o00 := C0.1
  have o10 := C1.1
  have o01 := C0.2.1
  have o02 := C0.2.2
  have o11 := C1.2.1
  have o12 := C1.2.2
  go_wp2_with fail
  clear o00 o01 o02 o10 o11 o12
  obtain ⟨V2x, hV2x⟩ : ∃ V2x, V2x = V2.alloc (.cells #[.bool tn, .string ti, .string tf] 23) := ⟨_, rfl⟩
  have HX := Lib.hid (show V2.heap.size + 1 = V2x.heap.size by rw [hV2x]; simp)
  rw [← hV2x]
  rw [← hV2x] at HB C0 z0 C1 z1
  clear hV2x
  (with_reducible refine (D2.out _).mono ?_)
  rintro e V3 ⟨rfl, hb⟩
  replace C0 := C0.keep hb (by omega)
  replace z0 : w.heap.size + 1 ≤ V3.heap.size := by have := hb.size; omega
  replace C1 := C1.keep hb (by omega)
  replace z1 : V2.heap.size + 1 ≤ V3.heap.size := by have := hb.size; omega
  replace HB := Lib.hid (HB.out.trans (hb.mono HB.out.size))
  clear hb
  have ba : Below V3.heap.size V3 (V3.alloc (.cells #[.bool tn, .string ti, .string tf] 23)) := (Below.refl _ _).alloc (Nat.le_refl _) _
  replace C0 := C0.keep ba (by omega)
  replace z0 : w.heap.size + 1 ≤ (V3.alloc (.cells #[.bool tn, .string ti, .string tf] 23)).heap.size := by have := ba.size; omega
  replace C1 := C1.keep ba (by omega)
  replace z1 : V2.heap.size + 1 ≤ (V3.alloc (.cells #[.bool tn, .string ti, .string tf] 23)).heap.size := by have := ba.size; omega
  replace HB := Lib.hid (HB.out.trans (ba.mono HB.out.size))
  clear ba
  have C2 : Cells3 (V3.alloc (.cells #[.bool tn, .string ti, .string tf] 23)) V3.heap.size (.bool tn) (.string ti) (.string tf) := (one_box V3 _ _ _ _).2.1
  have z2 : V3.heap.size + 1 ≤ (V3.alloc (.cells #[.bool tn, .string ti, .string tf] 23)).heap.size := by simp
  have o00 := C0.1
  have o10 := C1.1
  have o20 := C2.1
  have o01 := C0.2.1
  have o02 := C0.2.2
  have o11 := C1.2.1
  have o12 := C1.2.2
  have o21 := C2.2.1
  have o22 := C2.2.2
  go_wp2_with fail
  clear o00 o01 o02 o10 o11 o12 o20 o21 o22
  obtain ⟨V3x, hV3x⟩ : ∃ V3x, V3x = V3.alloc (.cells #[.bool tn, .string ti, .string tf] 23) := ⟨_, rfl⟩
  have HX := Lib.hid (show V3.heap.size + 1 = V3x.heap.size by rw [hV3x]; simp)
  rw [← hV3x]
  rw [← hV3x] at HB C0 z0 C1 z1 C2 z2
  clear hV3x
  (with_reducible refine (D3.out _).mono ?_)
  rintro e V4 ⟨rfl, hb⟩
  replace C0 := C0.keep hb (by omega)
  replace z0 : w.heap.size + 1 ≤ V4.heap.size := by have := hb.size; omega
  replace C1 := C1.keep hb (by omega)
  replace z1 : V2.heap.size + 1 ≤ V4.heap.size := by have := hb.size; omega
  replace C2 := C2.keep hb (by omega)
  replace z2 : V3.heap.size + 1 ≤ V4.heap.size := by have := hb.size; omega
  replace HB := Lib.hid (HB.out.trans (hb.mono HB.out.size))
  clear hb
  have o00 := C0.1
  have o10 := C1.1
  have o20 := C2.1
  have o01 := C0.2.1
  have o02 := C0.2.2
  have o11 := C1.2.1
  have o12 := C1.2.2
  have o21 := C2.2.1
  have o22 := C2.2.2
  go_wp2_with fail
  clear o00 o01 o02 o10 o11 o12 o20 o21 o22
  (with_reducible refine (D4.out _).mono ?_)
  rintro e V5 ⟨rfl, hb⟩
  replace C0 := C0.keep hb (by omega)
  replace z0 : w.heap.size + 1 ≤ V5.heap.size := by have := hb.size; omega
  replace C1 := C1.keep hb (by omega)
  replace z1 : V2.heap.size + 1 ≤ V5.heap.size := by have := hb.size; omega
  replace C2 := C2.keep hb (by omega)
  replace z2 : V3.heap.size + 1 ≤ V5.heap.size := by have := hb.size; omega
  replace HB := Lib.hid (HB.out.trans (hb.mono HB.out.size))
  clear hb
  have ba : Below V5.heap.size V5 (V5.alloc (.cells #[.bool false, .string ⟨#[]⟩, .string ⟨#[]⟩] 23)) := (Below.refl _ _).alloc (Nat.le_refl _) _
  replace C0 := C0.keep ba (by omega)
  replace z0 : w.heap.size + 1 ≤ (V5.alloc (.cells #[.bool false, .string ⟨#[]⟩, .string ⟨#[]⟩] 23)).heap.size := by have := ba.size; omega
  replace C1 := C1.keep ba (by omega)
  replace z1 : V2.heap.size + 1 ≤ (V5.alloc (.cells #[.bool false, .string ⟨#[]⟩, .string ⟨#[]⟩] 23)).heap.size := by have := ba.size; omega
  replace C2 := C2.keep ba (by omega)
  replace z2 : V3.heap.size + 1 ≤ (V5.alloc (.cells #[.bool false, .string ⟨#[]⟩, .string ⟨#[]⟩] 23)).heap.size := by have := ba.size; omega
  replace HB := Lib.hid (HB.out.trans (ba.mono HB.out.size))
  clear ba
  have C3 : Cells3 (V5.alloc (.cells #[.bool false, .string ⟨#[]⟩, .string ⟨#[]⟩] 23)) V5.heap.size (.bool false) (.string ⟨#[]⟩) (.string ⟨#[]⟩) := (one_box V5 _ _ _ _).2.1
  have z3 : V5.heap.size + 1 ≤ (V5.alloc (.cells #[.bool false, .string ⟨#[]⟩, .string ⟨#[]⟩] 23)).heap.size := by simp
  have o00 := C0.1
  have o10 := C1.1
  have o20 := C2.1
  have o30 := C3.1
  have o01 := C0.2.1
  have o02 := C0.2.2
  have o11 := C1.2.1
  have o12 := C1.2.2
  have o21 := C2.2.1
  have o22 := C2.2.2
  have o31 := C3.2.1
  have o32 := C3.2.2
  go_wp2_with fail
  clear o00 o01 o02 o10 o11 o12 o20 o21 o22 o30 o31 o32
  obtain ⟨V5x, hV5x⟩ : ∃ V5x, V5x = V5.alloc (.cells #[.bool false, .string ⟨#[]⟩, .string ⟨#[]⟩] 23) := ⟨_, rfl⟩
  have HX := Lib.hid (show V5.heap.size + 1 = V5x.heap.size by rw [hV5x]; simp)
  rw [← hV5x]
  rw [← hV5x] at HB C0 z0 C1 z1 C2 z2 C3 z3
  clear hV5x
  (with_reducible refine (D6.out _).mono ?_)
  rintro e V6 ⟨rfl, hb⟩
  replace C0 := C0.keep hb (by omega)
  replace z0 : w.heap.size + 1 ≤ V6.heap.size := by have := hb.size; omega
  replace C1 := C1.keep hb (by omega)
  replace z1 : V2.heap.size + 1 ≤ V6.heap.size := by have := hb.size; omega
  replace C2 := C2.keep hb (by omega)
  replace z2 : V3.heap.size + 1 ≤ V6.heap.size := by have := hb.size; omega
  replace C3 := C3.keep hb (by omega)
  replace z3 : V5.heap.size + 1 ≤ V6.heap.size := by have := hb.size; omega
  replace HB := Lib.hid (HB.out.trans (hb.mono HB.out.size))
  clear hb
  have ba : Below V6.heap.size V6 (V6.alloc (.cells #[.bool xn, .string xi, .string xf] 23)) := (Below.refl _ _).alloc (Nat.le_refl _) _
  replace C0 := C0.keep ba (by omega)
  replace z0 : w.heap.size + 1 ≤ (V6.alloc (.cells #[.bool xn, .string xi, .string xf] 23)).heap.size := by have := ba.size; omega
  replace C1 := C1.keep ba (by omega)
  replace z1 : V2.heap.size + 1 ≤ (V6.alloc (.cells #[.bool xn, .string xi, .string xf] 23)).heap.size := by have := ba.size; omega
  replace C2 := C2.keep ba (by omega)
  replace z2 : V3.heap.size + 1 ≤ (V6.alloc (.cells #[.bool xn, .string xi, .string xf] 23)).heap.size := by have := ba.size; omega
  replace C3 := C3.keep ba (by omega)
  replace z3 : V5.heap.size + 1 ≤ (V6.alloc (.cells #[.bool xn, .string xi, .string xf] 23)).heap.size := by have := ba.size; omega
  replace HB := Lib.hid (HB.out.trans (ba.mono HB.out.size))
  clear ba
  have C4 : Cells3 (V6.alloc (.cells #[.bool xn, .string xi, .string xf] 23)) V6.heap.size (.bool xn) (.string xi) (.string xf) := (one_box V6 _ _ _ _).2.1
  have z4 : V6.heap.size + 1 ≤ (V6.alloc (.cells #[.bool xn, .string xi, .string xf] 23)).heap.size := by simp
  have o00 := C0.1
  have o10 := C1.1
  have o20 := C2.1
  have o30 := C3.1
  have o40 := C4.1
  have o01 := C0.2.1
  have o02 := C0.2.2
  have o11 := C1.2.1
  have o12 := C1.2.2
  have o21 := C2.2.1
  have o22 := C2.2.2
  have o31 := C3.2.1
  have o32 := C3.2.2
  have o41 := C4.2.1
  have o42 := C4.2.2
  go_wp2_with fail
  clear o00 o01 o02 o10 o11 o12 o20 o21 o22 o30 o31 o32 o40 o41 o42
  obtain ⟨V6x, hV6x⟩ : ∃ V6x, V6x = V6.alloc (.cells #[.bool xn, .string xi, .string xf] 23) := ⟨_, rfl⟩
  have HX := Lib.hid (show V6.heap.size + 1 = V6x.heap.size by rw [hV6x]; simp)
  rw [← hV6x]
  rw [← hV6x] at HB C0 z0 C1 z1 C2 z2 C3 z3 C4 z4
  clear hV6x
  (with_reducible refine (D7.out _).mono ?_)
  rintro e V7 ⟨rfl, hb⟩
  replace C0 := C0.keep hb (by omega)
  replace z0 : w.heap.size + 1 ≤ V7.heap.size := by have := hb.size; omega
  replace C1 := C1.keep hb (by omega)
  replace z1 : V2.heap.size + 1 ≤ V7.heap.size := by have := hb.size; omega
  replace C2 := C2.keep hb (by omega)
  replace z2 : V3.heap.size + 1 ≤ V7.heap.size := by have := hb.size; omega
  replace C3 := C3.keep hb (by omega)
  replace z3 : V5.heap.size + 1 ≤ V7.heap.size := by have := hb.size; omega
  replace C4 := C4.keep hb (by omega)
  replace z4 : V6.heap.size + 1 ≤ V7.heap.size := by have := hb.size; omega
  replace HB := Lib.hid (HB.out.trans (hb.mono HB.out.size))
  clear hb
  have ba : Below V7.heap.size V7 (V7.alloc (.cells #[.bool yn, .string yi, .string yf] 23)) := (Below.refl _ _).alloc (Nat.le_refl _) _
  replace C0 := C0.keep ba (by omega)
  replace z0 : w.heap.size + 1 ≤ (V7.alloc (.cells #[.bool yn, .string yi, .string yf] 23)).heap.size := by have := ba.size; omega
  replace C1 := C1.keep ba (by omega)
  replace z1 : V2.heap.size + 1 ≤ (V7.alloc (.cells #[.bool yn, .string yi, .string yf] 23)).heap.size := by have := ba.size; omega
  replace C2 := C2.keep ba (by omega)
  replace z2 : V3.heap.size + 1 ≤ (V7.alloc (.cells #[.bool yn, .string yi, .string yf] 23)).heap.size := by have := ba.size; omega
  replace C3 := C3.keep ba (by omega)
  replace z3 : V5.heap.size + 1 ≤ (V7.alloc (.cells #[.bool yn, .string yi, .string yf] 23)).heap.size := by have := ba.size; omega
  replace C4 := C4.keep ba (by omega)
  replace z4 : V6.heap.size + 1 ≤ (V7.alloc (.cells #[.bool yn, .string yi, .string yf] 23)).heap.size := by have := ba.size; omega
  replace HB := Lib.hid (HB.out.trans (ba.mono HB.out.size))
  clear ba
  have C5 : Cells3 (V7.alloc (.cells #[.bool yn, .string yi, .string yf] 23)) V7.heap.size (.bool yn) (.string yi) (.string yf) := (one_box V7 _ _ _ _).2.1
  have z5 : V7.heap.size + 1 ≤ (V7.alloc (.cells #[.bool yn, .string yi, .string yf] 23)).heap.size := by simp
  have o00 := C0.1
  have o10 := C1.1
  have o20 := C2.1
  have o30 := C3.1
  have o40 := C4.1
  have o50 := C5.1
  have o01 := C0.2.1
  have o02 := C0.2.2
  have o11 := C1.2.1
  have o12 := C1.2.2
  have o21 := C2.2.1
  have o22 := C2.2.2
  have o31 := C3.2.1
  have o32 := C3.2.2
  have o41 := C4.2.1
  have o42 := C4.2.2
  have o51 := C5.2.1
  have o52 := C5.2.2
  go_wp2_with fail
  clear o00 o01 o02 o10 o11 o12 o20 o21 o22 o30 o31 o32 o40 o41 o42 o50 o51 o52
  obtain ⟨V7x, hV7x⟩ : ∃ V7x, V7x = V7.alloc (.cells #[.bool yn, .string yi, .string yf] 23) := ⟨_, rfl⟩
  have HX := Lib.hid (show V7.heap.size + 1 = V7x.heap.size by rw [hV7x]; simp)
  rw [← hV7x]
  rw [← hV7x] at HB C0 z0 C1 z1 C2 z2 C3 z3 C4 z4 C5 z5
  clear hV7x
  (with_reducible refine (D8.out _).mono ?_)
  rintro e V8 ⟨rfl, hb⟩
  replace C0 := C0.keep hb (by omega)
  replace z0 : w.heap.size + 1 ≤ V8.heap.size := by have := hb.size; omega
  replace C1 := C1.keep hb (by omega)
  replace z1 : V2.heap.size + 1 ≤ V8.heap.size := by have := hb.size; omega
  replace C2 := C2.keep hb (by omega)
  replace z2 : V3.heap.size + 1 ≤ V8.heap.size := by have := hb.size; omega
  replace C3 := C3.keep hb (by omega)
  replace z3 : V5.heap.size + 1 ≤ V8.heap.size := by have := hb.size; omega
  replace C4 := C4.keep hb (by omega)
  replace z4 : V6.heap.size + 1 ≤ V8.heap.size := by have := hb.size; omega
  replace C5 := C5.keep hb (by omega)
  replace z5 : V7.heap.size + 1 ≤ V8.heap.size := by have := hb.size; omega
  replace HB := Lib.hid (HB.out.trans (hb.mono HB.out.size))
  clear hb
  have o00 := C0.1
  have o10 := C1.1
  have o20 := C2.1
  have o30 := C3.1
  have o40 := C4.1
  have o50 := C5.1
  have o01 := C0.2.1
  have o02 := C0.2.2
  have o11 := C1.2.1
  have o12 := C1.2.2
  have o21 := C2.2.1
  have o22 := C2.2.2
  have o31 := C3.2.1
  have o32 := C3.2.2
  have o41 := C4.2.1
  have o42 := C4.2.2
  have o51 := C5.2.1
  have o52 := C5.2.2
  go_wp2
  go_ret
  exact ⟨rfl, HB.out⟩

set_option maxHeartbeats 4000000 in
set_option maxRecDepth 100000 in
theorem shifts_oe (dn tn : Bool) (di df ti tf : ByteArray) (n k : Int) (w : World) (pn : Bool) (pi pf : ByteArray) (c6 : Int) (H1 : ∀ wx : World, Calls Try.prog 34 #[(.agg #[.bool dn, .string di, .string df])] wx fun e w' => e = .returned (.tuple #[(.agg #[.bool tn, .string ti, .string tf]), .int .i64 0]) ∧ Below wx.heap.size wx w') (H2 : ∀ wx : World, Calls Try.prog 34 #[(.agg #[.bool tn, .string ti, .string tf])] wx fun e w' => e = .returned (.tuple #[(.agg #[.bool tn, .string ti, .string tf]), .int .i64 0]) ∧ Below wx.heap.size wx w') (H3 : ∀ wx : World, Calls Try.prog 41 #[(.agg #[.bool tn, .string ti, .string tf]), (.agg #[.bool dn, .string di, .string df])] wx fun e w' => e = .returned (.bool true) ∧ Below wx.heap.size wx w') (H4 : ∀ wx : World, Calls Try.prog 36 #[(.agg #[.bool dn, .string di, .string df]), .int .i64 k] wx fun e w' => e = .returned (.tuple #[(.agg #[.bool pn, .string pi, .string pf]), .int .i64 0]) ∧ Below wx.heap.size wx w') (H5 : ∀ wx : World, Calls Try.prog 41 #[(.agg #[.bool pn, .string pi, .string pf]), (.agg #[.bool dn, .string di, .string df])] wx fun e w' => e = .returned (.bool true) ∧ Below wx.heap.size wx w') (H6 : ∀ wx : World, Calls Try.prog 38 #[(.agg #[.bool dn, .string di, .string df]), .int .i64 n] wx fun e w' => e = .returned (.tuple #[(.agg #[.bool false, .string ⟨#[]⟩, .string ⟨#[]⟩]), .int .i64 c6]) ∧ Below wx.heap.size wx w') (hlen : ((pf.size : Nat) : Int) = max k ((df.size : Nat) : Int)) (h6 : c6 ≠ 0) :
    Calls Try.prog 12 #[(.agg #[.bool dn, .string di, .string df]), .int .i64 n, .int .i64 k] w fun e w' => e = .returned (.bool true) ∧ Below w.heap.size w w' := by
  have DW := Lib.hid awake_any
  have D1 := Lib.hid H1
  have D2 := Lib.hid H2
  have D3 := Lib.hid H3
  have D4 := Lib.hid H4
  have D5 := Lib.hid H5
  have D6 := Lib.hid H6
  clear H1 H2 H3 H4 H5 H6
  have q1 : (tn == tn) = true := beq_self_eq_true _
  have q2 : (ti.toList == ti.toList) = true := beq_self_eq_true _
  have q3 : (tf.toList == tf.toList) = true := beq_self_eq_true _
  have hc : (k < (df.size : Int) ∧ (pf.size : Int) = (df.size : Int)) ∨ (¬ k < (df.size : Int) ∧ (pf.size : Int) = k) := by omega
  clear hlen
  rcases hc with ⟨hc, he⟩ | ⟨hc, he⟩
  have q6 : (c6 != 0) = true := by simpa using h6
  clear h6
  · have q8 : decide (k < (df.size : Int)) = true := decide_eq_true hc
    have q9 : ((pf.size : Int) != (df.size : Int)) = false := by rw [he]; exact bne_self_eq_false _
    have q10 : (pf.size != df.size) = false := by rw [show pf.size = df.size by omega]; exact bne_self_eq_false _
    clear he
    go_enter Try.func12, Try.ntmps12
    go_wp2_with fail
    obtain ⟨W0, hW0⟩ : ∃ W0, W0 = (w.alloc (.cells #[.bool dn, .string di, .string df] 23)) := ⟨_, rfl⟩
    obtain ⟨hB, hz, C0, _⟩ : Below w.heap.size w W0 ∧ w.heap.size + 1 ≤ W0.heap.size ∧ Cells3 W0 w.heap.size (.bool dn) (.string di) (.string df) ∧ ∀ i, W0.frozen? ⟨w.heap.size, i, none⟩ = false := by rw [hW0]; exact ⟨(Below.refl _ w).alloc (Nat.le_refl _) _, one_box w _ _ _ _⟩
    have z0 : w.heap.size + 1 ≤ W0.heap.size := by omega
    rw [← hW0]
    have HB := Lib.hid hB
    clear hW0 hB hz
    (with_reducible refine (DW.out _).mono ?_)
    rintro e V1 ⟨rfl, hb⟩
    replace C0 := C0.keep hb (by omega)
    replace z0 : w.heap.size + 1 ≤ V1.heap.size := by have := hb.size; omega
    replace HB := Lib.hid (HB.out.trans (hb.mono HB.out.size))
    clear hb
    have o00 := C0.1
    have o01 := C0.2.1
    have o02 := C0.2.2
    go_wp2_with fail
    clear o00 o01 o02
    (with_reducible refine (D1.out _).mono ?_)
    rintro e V2 ⟨rfl, hb⟩
    replace C0 := C0.keep hb (by omega)
    replace z0 : w.heap.size + 1 ≤ V2.heap.size := by have := hb.size; omega
    replace HB := Lib.hid (HB.out.trans (hb.mono HB.out.size))
    clear hb
    have ba : Below V2.heap.size V2 (V2.alloc (.cells #[.bool tn, .string ti, .string tf] 23)) := (Below.refl _ _).alloc (Nat.le_refl _) _
    replace C0 := C0.keep ba (by omega)
    replace z0 : w.heap.size + 1 ≤ (V2.alloc (.cells #[.bool tn, .string ti, .string tf] 23)).heap.size := by have := ba.size; omega
    replace HB := Lib.hid (HB.out.trans (ba.mono HB.out.size))
    clear ba
    have C1 : Cells3 (V2.alloc (.cells #[.bool tn, .string ti, .string tf] 23)) V2.heap.size (.bool tn) (.string ti) (.string tf) := (one_box V2 _ _ _ _).2.1
    have z1 : V2.heap.size + 1 ≤ (V2.alloc (.cells #[.bool tn, .string ti, .string tf] 23)).heap.size := by simp
    have o00 := C0.1
    have o10 := C1.1
    have o01 := C0.2.1
    have o02 := C0.2.2
    have o11 := C1.2.1
    have o12 := C1.2.2
    go_wp2_with fail
    clear o00 o01 o02 o10 o11 o12
    obtain ⟨V2x, hV2x⟩ : ∃ V2x, V2x = V2.alloc (.cells #[.bool tn, .string ti, .string tf] 23) := ⟨_, rfl⟩
    have HX := Lib.hid (show V2.heap.size + 1 = V2x.heap.size by rw [hV2x]; simp)
    rw [← hV2x]
    rw [← hV2x] at HB C0 z0 C1 z1
    clear hV2x
    (with_reducible refine (D2.out _).mono ?_)
    rintro e V3 ⟨rfl, hb⟩
    replace C0 := C0.keep hb (by omega)
    replace z0 : w.heap.size + 1 ≤ V3.heap.size := by have := hb.size; omega
    replace C1 := C1.keep hb (by omega)
    replace z1 : V2.heap.size + 1 ≤ V3.heap.size := by have := hb.size; omega
    replace HB := Lib.hid (HB.out.trans (hb.mono HB.out.size))
    clear hb
    have ba : Below V3.heap.size V3 (V3.alloc (.cells #[.bool tn, .string ti, .string tf] 23)) := (Below.refl _ _).alloc (Nat.le_refl _) _
    replace C0 := C0.keep ba (by omega)
    replace z0 : w.heap.size + 1 ≤ (V3.alloc (.cells #[.bool tn, .string ti, .string tf] 23)).heap.size := by have := ba.size; omega
    replace C1 := C1.keep ba (by omega)
    replace z1 : V2.heap.size + 1 ≤ (V3.alloc (.cells #[.bool tn, .string ti, .string tf] 23)).heap.size := by have := ba.size; omega
    replace HB := Lib.hid (HB.out.trans (ba.mono HB.out.size))
    clear ba
    have C2 : Cells3 (V3.alloc (.cells #[.bool tn, .string ti, .string tf] 23)) V3.heap.size (.bool tn) (.string ti) (.string tf) := (one_box V3 _ _ _ _).2.1
    have z2 : V3.heap.size + 1 ≤ (V3.alloc (.cells #[.bool tn, .string ti, .string tf] 23)).heap.size := by simp
    have o00 := C0.1
    have o10 := C1.1
    have o20 := C2.1
    have o01 := C0.2.1
    have o02 := C0.2.2
    have o11 := C1.2.1
    have o12 := C1.2.2
    have o21 := C2.2.1
    have o22 := C2.2.2
    go_wp2_with fail
    clear o00 o01 o02 o10 o11 o12 o20 o21 o22
    obtain ⟨V3x, hV3x⟩ : ∃ V3x, V3x = V3.alloc (.cells #[.bool tn, .string ti, .string tf] 23) := ⟨_, rfl⟩
    have HX := Lib.hid (show V3.heap.size + 1 = V3x.heap.size by rw [hV3x]; simp)
    rw [← hV3x]
    rw [← hV3x] at HB C0 z0 C1 z1 C2 z2
    clear hV3x
    (with_reducible refine (D3.out _).mono ?_)
    rintro e V4 ⟨rfl, hb⟩
    replace C0 := C0.keep hb (by omega)
    replace z0 : w.heap.size + 1 ≤ V4.heap.size := by have := hb.size; omega
    replace C1 := C1.keep hb (by omega)
    replace z1 : V2.heap.size + 1 ≤ V4.heap.size := by have := hb.size; omega
    replace C2 := C2.keep hb (by omega)
    replace z2 : V3.heap.size + 1 ≤ V4.heap.size := by have := hb.size; omega
    replace HB := Lib.hid (HB.out.trans (hb.mono HB.out.size))
    clear hb
    have o00 := C0.1
    have o10 := C1.1
    have o20 := C2.1
    have o01 := C0.2.1
    have o02 := C0.2.2
    have o11 := C1.2.1
    have o12 := C1.2.2
    have o21 := C2.2.1
    have o22 := C2.2.2
    go_wp2_with fail
    clear o00 o01 o02 o10 o11 o12 o20 o21 o22
    (with_reducible refine (D4.out _).mono ?_)
    rintro e V5 ⟨rfl, hb⟩
    replace C0 := C0.keep hb (by omega)
    replace z0 : w.heap.size + 1 ≤ V5.heap.size := by have := hb.size; omega
    replace C1 := C1.keep hb (by omega)
    replace z1 : V2.heap.size + 1 ≤ V5.heap.size := by have := hb.size; omega
    replace C2 := C2.keep hb (by omega)
    replace z2 : V3.heap.size + 1 ≤ V5.heap.size := by have := hb.size; omega
    replace HB := Lib.hid (HB.out.trans (hb.mono HB.out.size))
    clear hb
    have ba : Below V5.heap.size V5 (V5.alloc (.cells #[.bool pn, .string pi, .string pf] 23)) := (Below.refl _ _).alloc (Nat.le_refl _) _
    replace C0 := C0.keep ba (by omega)
    replace z0 : w.heap.size + 1 ≤ (V5.alloc (.cells #[.bool pn, .string pi, .string pf] 23)).heap.size := by have := ba.size; omega
    replace C1 := C1.keep ba (by omega)
    replace z1 : V2.heap.size + 1 ≤ (V5.alloc (.cells #[.bool pn, .string pi, .string pf] 23)).heap.size := by have := ba.size; omega
    replace C2 := C2.keep ba (by omega)
    replace z2 : V3.heap.size + 1 ≤ (V5.alloc (.cells #[.bool pn, .string pi, .string pf] 23)).heap.size := by have := ba.size; omega
    replace HB := Lib.hid (HB.out.trans (ba.mono HB.out.size))
    clear ba
    have C3 : Cells3 (V5.alloc (.cells #[.bool pn, .string pi, .string pf] 23)) V5.heap.size (.bool pn) (.string pi) (.string pf) := (one_box V5 _ _ _ _).2.1
    have z3 : V5.heap.size + 1 ≤ (V5.alloc (.cells #[.bool pn, .string pi, .string pf] 23)).heap.size := by simp
    have o00 := C0.1
    have o10 := C1.1
    have o20 := C2.1
    have o30 := C3.1
    have o01 := C0.2.1
    have o02 := C0.2.2
    have o11 := C1.2.1
    have o12 := C1.2.2
    have o21 := C2.2.1
    have o22 := C2.2.2
    have o31 := C3.2.1
    have o32 := C3.2.2
    go_wp2_with fail
    clear o00 o01 o02 o10 o11 o12 o20 o21 o22 o30 o31 o32
    obtain ⟨V5x, hV5x⟩ : ∃ V5x, V5x = V5.alloc (.cells #[.bool pn, .string pi, .string pf] 23) := ⟨_, rfl⟩
    have HX := Lib.hid (show V5.heap.size + 1 = V5x.heap.size by rw [hV5x]; simp)
    rw [← hV5x]
    rw [← hV5x] at HB C0 z0 C1 z1 C2 z2 C3 z3
    clear hV5x
    (with_reducible refine (D5.out _).mono ?_)
    rintro e V6 ⟨rfl, hb⟩
    replace C0 := C0.keep hb (by omega)
    replace z0 : w.heap.size + 1 ≤ V6.heap.size := by have := hb.size; omega
    replace C1 := C1.keep hb (by omega)
    replace z1 : V2.heap.size + 1 ≤ V6.heap.size := by have := hb.size; omega
    replace C2 := C2.keep hb (by omega)
    replace z2 : V3.heap.size + 1 ≤ V6.heap.size := by have := hb.size; omega
    replace C3 := C3.keep hb (by omega)
    replace z3 : V5.heap.size + 1 ≤ V6.heap.size := by have := hb.size; omega
    replace HB := Lib.hid (HB.out.trans (hb.mono HB.out.size))
    clear hb
    have o00 := C0.1
    have o10 := C1.1
    have o20 := C2.1
    have o30 := C3.1
    have o01 := C0.2.1
    have o02 := C0.2.2
    have o11 := C1.2.1
    have o12 := C1.2.2
    have o21 := C2.2.1
    have o22 := C2.2.2
    have o31 := C3.2.1
    have o32 := C3.2.2
    go_wp2_with fail
    clear o00 o01 o02 o10 o11 o12 o20 o21 o22 o30 o31 o32
    (with_reducible refine (D6.out _).mono ?_)
    rintro e V7 ⟨rfl, hb⟩
    replace C0 := C0.keep hb (by omega)
    replace z0 : w.heap.size + 1 ≤ V7.heap.size := by have := hb.size; omega
    replace C1 := C1.keep hb (by omega)
    replace z1 : V2.heap.size + 1 ≤ V7.heap.size := by have := hb.size; omega
    replace C2 := C2.keep hb (by omega)
    replace z2 : V3.heap.size + 1 ≤ V7.heap.size := by have := hb.size; omega
    replace C3 := C3.keep hb (by omega)
    replace z3 : V5.heap.size + 1 ≤ V7.heap.size := by have := hb.size; omega
    replace HB := Lib.hid (HB.out.trans (hb.mono HB.out.size))
    clear hb
    have ba : Below V7.heap.size V7 (V7.alloc (.cells #[.bool false, .string ⟨#[]⟩, .string ⟨#[]⟩] 23)) := (Below.refl _ _).alloc (Nat.le_refl _) _
    replace C0 := C0.keep ba (by omega)
    replace z0 : w.heap.size + 1 ≤ (V7.alloc (.cells #[.bool false, .string ⟨#[]⟩, .string ⟨#[]⟩] 23)).heap.size := by have := ba.size; omega
    replace C1 := C1.keep ba (by omega)
    replace z1 : V2.heap.size + 1 ≤ (V7.alloc (.cells #[.bool false, .string ⟨#[]⟩, .string ⟨#[]⟩] 23)).heap.size := by have := ba.size; omega
    replace C2 := C2.keep ba (by omega)
    replace z2 : V3.heap.size + 1 ≤ (V7.alloc (.cells #[.bool false, .string ⟨#[]⟩, .string ⟨#[]⟩] 23)).heap.size := by have := ba.size; omega
    replace C3 := C3.keep ba (by omega)
    replace z3 : V5.heap.size + 1 ≤ (V7.alloc (.cells #[.bool false, .string ⟨#[]⟩, .string ⟨#[]⟩] 23)).heap.size := by have := ba.size; omega
    replace HB := Lib.hid (HB.out.trans (ba.mono HB.out.size))
    clear ba
    have C4 : Cells3 (V7.alloc (.cells #[.bool false, .string ⟨#[]⟩, .string ⟨#[]⟩] 23)) V7.heap.size (.bool false) (.string ⟨#[]⟩) (.string ⟨#[]⟩) := (one_box V7 _ _ _ _).2.1
    have z4 : V7.heap.size + 1 ≤ (V7.alloc (.cells #[.bool false, .string ⟨#[]⟩, .string ⟨#[]⟩] 23)).heap.size := by simp
    have o00 := C0.1
    have o10 := C1.1
    have o20 := C2.1
    have o30 := C3.1
    have o40 := C4.1
    have o01 := C0.2.1
    have o02 := C0.2.2
    have o11 := C1.2.1
    have o12 := C1.2.2
    have o21 := C2.2.1
    have o22 := C2.2.2
    have o31 := C3.2.1
    have o32 := C3.2.2
    have o41 := C4.2.1
    have o42 := C4.2.2
    go_wp2
    go_ret
    exact ⟨rfl, HB.out⟩
  · have q8 : decide (k < (df.size : Int)) = false := decide_eq_false hc
    have q9 : ((pf.size : Int) != k) = false := by rw [he]; exact bne_self_eq_false _
    clear he
    go_enter Try.func12, Try.ntmps12
    go_wp2_with fail
    obtain ⟨W0, hW0⟩ : ∃ W0, W0 = (w.alloc (.cells #[.bool dn, .string di, .string df] 23)) := ⟨_, rfl⟩
    obtain ⟨hB, hz, C0, _⟩ : Below w.heap.size w W0 ∧ w.heap.size + 1 ≤ W0.heap.size ∧ Cells3 W0 w.heap.size (.bool dn) (.string di) (.string df) ∧ ∀ i, W0.frozen? ⟨w.heap.size, i, none⟩ = false := by rw [hW0]; exact ⟨(Below.refl _ w).alloc (Nat.le_refl _) _, one_box w _ _ _ _⟩
    have z0 : w.heap.size + 1 ≤ W0.heap.size := by omega
    rw [← hW0]
    have HB := Lib.hid hB
    clear hW0 hB hz
    (with_reducible refine (DW.out _).mono ?_)
    rintro e V1 ⟨rfl, hb⟩
    replace C0 := C0.keep hb (by omega)
    replace z0 : w.heap.size + 1 ≤ V1.heap.size := by have := hb.size; omega
    replace HB := Lib.hid (HB.out.trans (hb.mono HB.out.size))
    clear hb
    have o00 := C0.1
    have o01 := C0.2.1
    have o02 := C0.2.2
    go_wp2_with fail
    clear o00 o01 o02
    (with_reducible refine (D1.out _).mono ?_)
    rintro e V2 ⟨rfl, hb⟩
    replace C0 := C0.keep hb (by omega)
    replace z0 : w.heap.size + 1 ≤ V2.heap.size := by have := hb.size; omega
    replace HB := Lib.hid (HB.out.trans (hb.mono HB.out.size))
    clear hb
    have ba : Below V2.heap.size V2 (V2.alloc (.cells #[.bool tn, .string ti, .string tf] 23)) := (Below.refl _ _).alloc (Nat.le_refl _) _
    replace C0 := C0.keep ba (by omega)
    replace z0 : w.heap.size + 1 ≤ (V2.alloc (.cells #[.bool tn, .string ti, .string tf] 23)).heap.size := by have := ba.size; omega
    replace HB := Lib.hid (HB.out.trans (ba.mono HB.out.size))
    clear ba
    have C1 : Cells3 (V2.alloc (.cells #[.bool tn, .string ti, .string tf] 23)) V2.heap.size (.bool tn) (.string ti) (.string tf) := (one_box V2 _ _ _ _).2.1
    have z1 : V2.heap.size + 1 ≤ (V2.alloc (.cells #[.bool tn, .string ti, .string tf] 23)).heap.size := by simp
    have o00 := C0.1
    have o10 := C1.1
    have o01 := C0.2.1
    have o02 := C0.2.2
    have o11 := C1.2.1
    have o12 := C1.2.2
    go_wp2_with fail
    clear o00 o01 o02 o10 o11 o12
    obtain ⟨V2x, hV2x⟩ : ∃ V2x, V2x = V2.alloc (.cells #[.bool tn, .string ti, .string tf] 23) := ⟨_, rfl⟩
    have HX := Lib.hid (show V2.heap.size + 1 = V2x.heap.size by rw [hV2x]; simp)
    rw [← hV2x]
    rw [← hV2x] at HB C0 z0 C1 z1
    clear hV2x
    (with_reducible refine (D2.out _).mono ?_)
    rintro e V3 ⟨rfl, hb⟩
    replace C0 := C0.keep hb (by omega)
    replace z0 : w.heap.size + 1 ≤ V3.heap.size := by have := hb.size; omega
    replace C1 := C1.keep hb (by omega)
    replace z1 : V2.heap.size + 1 ≤ V3.heap.size := by have := hb.size; omega
    replace HB := Lib.hid (HB.out.trans (hb.mono HB.out.size))
    clear hb
    have ba : Below V3.heap.size V3 (V3.alloc (.cells #[.bool tn, .string ti, .string tf] 23)) := (Below.refl _ _).alloc (Nat.le_refl _) _
    replace C0 := C0.keep ba (by omega)
    replace z0 : w.heap.size + 1 ≤ (V3.alloc (.cells #[.bool tn, .string ti, .string tf] 23)).heap.size := by have := ba.size; omega
    replace C1 := C1.keep ba (by omega)
    replace z1 : V2.heap.size + 1 ≤ (V3.alloc (.cells #[.bool tn, .string ti, .string tf] 23)).heap.size := by have := ba.size; omega
    replace HB := Lib.hid (HB.out.trans (ba.mono HB.out.size))
    clear ba
    have C2 : Cells3 (V3.alloc (.cells #[.bool tn, .string ti, .string tf] 23)) V3.heap.size (.bool tn) (.string ti) (.string tf) := (one_box V3 _ _ _ _).2.1
    have z2 : V3.heap.size + 1 ≤ (V3.alloc (.cells #[.bool tn, .string ti, .string tf] 23)).heap.size := by simp
    have o00 := C0.1
    have o10 := C1.1
    have o20 := C2.1
    have o01 := C0.2.1
    have o02 := C0.2.2
    have o11 := C1.2.1
    have o12 := C1.2.2
    have o21 := C2.2.1
    have o22 := C2.2.2
    go_wp2_with fail
    clear o00 o01 o02 o10 o11 o12 o20 o21 o22
    obtain ⟨V3x, hV3x⟩ : ∃ V3x, V3x = V3.alloc (.cells #[.bool tn, .string ti, .string tf] 23) := ⟨_, rfl⟩
    have HX := Lib.hid (show V3.heap.size + 1 = V3x.heap.size by rw [hV3x]; simp)
    rw [← hV3x]
    rw [← hV3x] at HB C0 z0 C1 z1 C2 z2
    clear hV3x
    (with_reducible refine (D3.out _).mono ?_)
    rintro e V4 ⟨rfl, hb⟩
    replace C0 := C0.keep hb (by omega)
    replace z0 : w.heap.size + 1 ≤ V4.heap.size := by have := hb.size; omega
    replace C1 := C1.keep hb (by omega)
    replace z1 : V2.heap.size + 1 ≤ V4.heap.size := by have := hb.size; omega
    replace C2 := C2.keep hb (by omega)
    replace z2 : V3.heap.size + 1 ≤ V4.heap.size := by have := hb.size; omega
    replace HB := Lib.hid (HB.out.trans (hb.mono HB.out.size))
    clear hb
    have o00 := C0.1
    have o10 := C1.1
    have o20 := C2.1
    have o01 := C0.2.1
    have o02 := C0.2.2
    have o11 := C1.2.1
    have o12 := C1.2.2
    have o21 := C2.2.1
    have o22 := C2.2.2
    go_wp2_with fail
    clear o00 o01 o02 o10 o11 o12 o20 o21 o22
    (with_reducible refine (D4.out _).mono ?_)
    rintro e V5 ⟨rfl, hb⟩
    replace C0 := C0.keep hb (by omega)
    replace z0 : w.heap.size + 1 ≤ V5.heap.size := by have := hb.size; omega
    replace C1 := C1.keep hb (by omega)
    replace z1 : V2.heap.size + 1 ≤ V5.heap.size := by have := hb.size; omega
    replace C2 := C2.keep hb (by omega)
    replace z2 : V3.heap.size + 1 ≤ V5.heap.size := by have := hb.size; omega
    replace HB := Lib.hid (HB.out.trans (hb.mono HB.out.size))
    clear hb
    have ba : Below V5.heap.size V5 (V5.alloc (.cells #[.bool pn, .string pi, .string pf] 23)) := (Below.refl _ _).alloc (Nat.le_refl _) _
    replace C0 := C0.keep ba (by omega)
    replace z0 : w.heap.size + 1 ≤ (V5.alloc (.cells #[.bool pn, .string pi, .string pf] 23)).heap.size := by have := ba.size; omega
    replace C1 := C1.keep ba (by omega)
    replace z1 : V2.heap.size + 1 ≤ (V5.alloc (.cells #[.bool pn, .string pi, .string pf] 23)).heap.size := by have := ba.size; omega
    replace C2 := C2.keep ba (by omega)
    replace z2 : V3.heap.size + 1 ≤ (V5.alloc (.cells #[.bool pn, .string pi, .string pf] 23)).heap.size := by have := ba.size; omega
    replace HB := Lib.hid (HB.out.trans (ba.mono HB.out.size))
    clear ba
    have C3 : Cells3 (V5.alloc (.cells #[.bool pn, .string pi, .string pf] 23)) V5.heap.size (.bool pn) (.string pi) (.string pf) := (one_box V5 _ _ _ _).2.1
    have z3 : V5.heap.size + 1 ≤ (V5.alloc (.cells #[.bool pn, .string pi, .string pf] 23)).heap.size := by simp
    have o00 := C0.1
    have o10 := C1.1
    have o20 := C2.1
    have o30 := C3.1
    have o01 := C0.2.1
    have o02 := C0.2.2
    have o11 := C1.2.1
    have o12 := C1.2.2
    have o21 := C2.2.1
    have o22 := C2.2.2
    have o31 := C3.2.1
    have o32 := C3.2.2
    go_wp2_with fail
    clear o00 o01 o02 o10 o11 o12 o20 o21 o22 o30 o31 o32
    obtain ⟨V5x, hV5x⟩ : ∃ V5x, V5x = V5.alloc (.cells #[.bool pn, .string pi, .string pf] 23) := ⟨_, rfl⟩
    have HX := Lib.hid (show V5.heap.size + 1 = V5x.heap.size by rw [hV5x]; simp)
    rw [← hV5x]
    rw [← hV5x] at HB C0 z0 C1 z1 C2 z2 C3 z3
    clear hV5x
    (with_reducible refine (D5.out _).mono ?_)
    rintro e V6 ⟨rfl, hb⟩
    replace C0 := C0.keep hb (by omega)
    replace z0 : w.heap.size + 1 ≤ V6.heap.size := by have := hb.size; omega
    replace C1 := C1.keep hb (by omega)
    replace z1 : V2.heap.size + 1 ≤ V6.heap.size := by have := hb.size; omega
    replace C2 := C2.keep hb (by omega)
    replace z2 : V3.heap.size + 1 ≤ V6.heap.size := by have := hb.size; omega
    replace C3 := C3.keep hb (by omega)
    replace z3 : V5.heap.size + 1 ≤ V6.heap.size := by have := hb.size; omega
    replace HB := Lib.hid (HB.out.trans (hb.mono HB.out.size))
    clear hb
    have o00 := C0.1
    have o10 := C1.1
    have o20 := C2.1
    have o30 := C3.1
    have o01 := C0.2.1
    have o02 := C0.2.2
    have o11 := C1.2.1
    have o12 := C1.2.2
    have o21 := C2.2.1
    have o22 := C2.2.2
    have o31 := C3.2.1
    have o32 := C3.2.2
    go_wp2_with fail
    clear o00 o01 o02 o10 o11 o12 o20 o21 o22 o30 o31 o32
    (with_reducible refine (D6.out _).mono ?_)
    rintro e V7 ⟨rfl, hb⟩
    replace C0 := C0.keep hb (by omega)
    replace z0 : w.heap.size + 1 ≤ V7.heap.size := by have := hb.size; omega
    replace C1 := C1.keep hb (by omega)
    replace z1 : V2.heap.size + 1 ≤ V7.heap.size := by have := hb.size; omega
    replace C2 := C2.keep hb (by omega)
    replace z2 : V3.heap.size + 1 ≤ V7.heap.size := by have := hb.size; omega
    replace C3 := C3.keep hb (by omega)
    replace z3 : V5.heap.size + 1 ≤ V7.heap.size := by have := hb.size; omega
    replace HB := Lib.hid (HB.out.trans (hb.mono HB.out.size))
    clear hb
    have ba : Below V7.heap.size V7 (V7.alloc (.cells #[.bool false, .string ⟨#[]⟩, .string ⟨#[]⟩] 23)) := (Below.refl _ _).alloc (Nat.le_refl _) _
    replace C0 := C0.keep ba (by omega)
    replace z0 : w.heap.size + 1 ≤ (V7.alloc (.cells #[.bool false, .string ⟨#[]⟩, .string ⟨#[]⟩] 23)).heap.size := by have := ba.size; omega
    replace C1 := C1.keep ba (by omega)
    replace z1 : V2.heap.size + 1 ≤ (V7.alloc (.cells #[.bool false, .string ⟨#[]⟩, .string ⟨#[]⟩] 23)).heap.size := by have := ba.size; omega
    replace C2 := C2.keep ba (by omega)
    replace z2 : V3.heap.size + 1 ≤ (V7.alloc (.cells #[.bool false, .string ⟨#[]⟩, .string ⟨#[]⟩] 23)).heap.size := by have := ba.size; omega
    replace C3 := C3.keep ba (by omega)
    replace z3 : V5.heap.size + 1 ≤ (V7.alloc (.cells #[.bool false, .string ⟨#[]⟩, .string ⟨#[]⟩] 23)).heap.size := by have := ba.size; omega
    replace HB := Lib.hid (HB.out.trans (ba.mono HB.out.size))
    clear ba
    have C4 : Cells3 (V7.alloc (.cells #[.bool false, .string ⟨#[]⟩, .string ⟨#[]⟩] 23)) V7.heap.size (.bool false) (.string ⟨#[]⟩) (.string ⟨#[]⟩) := (one_box V7 _ _ _ _).2.1
    have z4 : V7.heap.size + 1 ≤ (V7.alloc (.cells #[.bool false, .string ⟨#[]⟩, .string ⟨#[]⟩] 23)).heap.size := by simp
    have o00 := C0.1
    have o10 := C1.1
    have o20 := C2.1
    have o30 := C3.1
    have o40 := C4.1
    have o01 := C0.2.1
    have o02 := C0.2.2
    have o11 := C1.2.1
    have o12 := C1.2.2
    have o21 := C2.2.1
    have o22 := C2.2.2
    have o31 := C3.2.1
    have o32 := C3.2.2
    have o41 := C4.2.1
    have o42 := C4.2.2
    go_wp2
    go_ret
    exact ⟨rfl, HB.out⟩

set_option maxHeartbeats 4000000 in
set_option maxRecDepth 100000 in
theorem shifts_o1 (dn tn : Bool) (di df ti tf : ByteArray) (n k : Int) (w : World) (hn2 : n ≤ 9223372036854775807) (pn : Bool) (pi pf : ByteArray) (xn : Bool) (xi xf : ByteArray) (c7 : Int) (H1 : ∀ wx : World, Calls Try.prog 34 #[(.agg #[.bool dn, .string di, .string df])] wx fun e w' => e = .returned (.tuple #[(.agg #[.bool tn, .string ti, .string tf]), .int .i64 0]) ∧ Below wx.heap.size wx w') (H2 : ∀ wx : World, Calls Try.prog 34 #[(.agg #[.bool tn, .string ti, .string tf])] wx fun e w' => e = .returned (.tuple #[(.agg #[.bool tn, .string ti, .string tf]), .int .i64 0]) ∧ Below wx.heap.size wx w') (H3 : ∀ wx : World, Calls Try.prog 41 #[(.agg #[.bool tn, .string ti, .string tf]), (.agg #[.bool dn, .string di, .string df])] wx fun e w' => e = .returned (.bool true) ∧ Below wx.heap.size wx w') (H4 : ∀ wx : World, Calls Try.prog 36 #[(.agg #[.bool dn, .string di, .string df]), .int .i64 k] wx fun e w' => e = .returned (.tuple #[(.agg #[.bool pn, .string pi, .string pf]), .int .i64 0]) ∧ Below wx.heap.size wx w') (H5 : ∀ wx : World, Calls Try.prog 41 #[(.agg #[.bool pn, .string pi, .string pf]), (.agg #[.bool dn, .string di, .string df])] wx fun e w' => e = .returned (.bool true) ∧ Below wx.heap.size wx w') (H6 : ∀ wx : World, Calls Try.prog 38 #[(.agg #[.bool dn, .string di, .string df]), .int .i64 n] wx fun e w' => e = .returned (.tuple #[(.agg #[.bool xn, .string xi, .string xf]), .int .i64 0]) ∧ Below wx.heap.size wx w') (H7 : ∀ wx : World, Calls Try.prog 38 #[(.agg #[.bool xn, .string xi, .string xf]), .int .i64 (-n)] wx fun e w' => e = .returned (.tuple #[(.agg #[.bool false, .string ⟨#[]⟩, .string ⟨#[]⟩]), .int .i64 c7]) ∧ Below wx.heap.size wx w') (hlen : ((pf.size : Nat) : Int) = max k ((df.size : Nat) : Int)) (hnr : -9223372036854775808 < n) (h7 : c7 ≠ 0) :
    Calls Try.prog 12 #[(.agg #[.bool dn, .string di, .string df]), .int .i64 n, .int .i64 k] w fun e w' => e = .returned (.bool true) ∧ Below w.heap.size w w' := by
  have DW := Lib.hid awake_any
  have D1 := Lib.hid H1
  have D2 := Lib.hid H2
  have D3 := Lib.hid H3
  have D4 := Lib.hid H4
  have D5 := Lib.hid H5
  have D6 := Lib.hid H6
  have D7 := Lib.hid H7
  clear H1 H2 H3 H4 H5 H6 H7
  have q1 : (tn == tn) = true := beq_self_eq_true _
  have q2 : (ti.toList == ti.toList) = true := beq_self_eq_true _
  have q3 : (tf.toList == tf.toList) = true := beq_self_eq_true _
  have hc : (k < (df.size : Int) ∧ (pf.size : Int) = (df.size : Int)) ∨ (¬ k < (df.size : Int) ∧ (pf.size : Int) = k) := by omega
  clear hlen
  rcases hc with ⟨hc, he⟩ | ⟨hc, he⟩
  have q7 : (c7 != 0) = true := by simpa using h7
  clear h7
  · have q8 : decide (k < (df.size : Int)) = true := decide_eq_true hc
    have q9 : ((pf.size : Int) != (df.size : Int)) = false := by rw [he]; exact bne_self_eq_false _
    have q10 : (pf.size != df.size) = false := by rw [show pf.size = df.size by omega]; exact bne_self_eq_false _
    clear he
    go_enter Try.func12, Try.ntmps12
    go_wp2_with fail
    obtain ⟨W0, hW0⟩ : ∃ W0, W0 = (w.alloc (.cells #[.bool dn, .string di, .string df] 23)) := ⟨_, rfl⟩
    obtain ⟨hB, hz, C0, _⟩ : Below w.heap.size w W0 ∧ w.heap.size + 1 ≤ W0.heap.size ∧ Cells3 W0 w.heap.size (.bool dn) (.string di) (.string df) ∧ ∀ i, W0.frozen? ⟨w.heap.size, i, none⟩ = false := by rw [hW0]; exact ⟨(Below.refl _ w).alloc (Nat.le_refl _) _, one_box w _ _ _ _⟩
    have z0 : w.heap.size + 1 ≤ W0.heap.size := by omega
    rw [← hW0]
    have HB := Lib.hid hB
    clear hW0 hB hz
    (with_reducible refine (DW.out _).mono ?_)
    rintro e V1 ⟨rfl, hb⟩
    replace C0 := C0.keep hb (by omega)
    replace z0 : w.heap.size + 1 ≤ V1.heap.size := by have := hb.size; omega
    replace HB := Lib.hid (HB.out.trans (hb.mono HB.out.size))
    clear hb
    have o00 := C0.1
    have o01 := C0.2.1
    have o02 := C0.2.2
    go_wp2_with fail
    clear o00 o01 o02
    (with_reducible refine (D1.out _).mono ?_)
    rintro e V2 ⟨rfl, hb⟩
    replace C0 := C0.keep hb (by omega)
    replace z0 : w.heap.size + 1 ≤ V2.heap.size := by have := hb.size; omega
    replace HB := Lib.hid (HB.out.trans (hb.mono HB.out.size))
    clear hb
    have ba : Below V2.heap.size V2 (V2.alloc (.cells #[.bool tn, .string ti, .string tf] 23)) := (Below.refl _ _).alloc (Nat.le_refl _) _
    replace C0 := C0.keep ba (by omega)
    replace z0 : w.heap.size + 1 ≤ (V2.alloc (.cells #[.bool tn, .string ti, .string tf] 23)).heap.size := by have := ba.size; omega
    replace HB := Lib.hid (HB.out.trans (ba.mono HB.out.size))
    clear ba
    have C1 : Cells3 (V2.alloc (.cells #[.bool tn, .string ti, .string tf] 23)) V2.heap.size (.bool tn) (.string ti) (.string tf) := (one_box V2 _ _ _ _).2.1
    have z1 : V2.heap.size + 1 ≤ (V2.alloc (.cells #[.bool tn, .string ti, .string tf] 23)).heap.size := by simp
    have o00 := C0.1
    have o10 := C1.1
    have o01 := C0.2.1
    have o02 := C0.2.2
    have o11 := C1.2.1
    have o12 := C1.2.2
    go_wp2_with fail
    clear o00 o01 o02 o10 o11 o12
    obtain ⟨V2x, hV2x⟩ : ∃ V2x, V2x = V2.alloc (.cells #[.bool tn, .string ti, .string tf] 23) := ⟨_, rfl⟩
    have HX := Lib.hid (show V2.heap.size + 1 = V2x.heap.size by rw [hV2x]; simp)
    rw [← hV2x]
    rw [← hV2x] at HB C0 z0 C1 z1
    clear hV2x
    (with_reducible refine (D2.out _).mono ?_)
    rintro e V3 ⟨rfl, hb⟩
    replace C0 := C0.keep hb (by omega)
    replace z0 : w.heap.size + 1 ≤ V3.heap.size := by have := hb.size; omega
    replace C1 := C1.keep hb (by omega)
    replace z1 : V2.heap.size + 1 ≤ V3.heap.size := by have := hb.size; omega
    replace HB := Lib.hid (HB.out.trans (hb.mono HB.out.size))
    clear hb
    have ba : Below V3.heap.size V3 (V3.alloc (.cells #[.bool tn, .string ti, .string tf] 23)) := (Below.refl _ _).alloc (Nat.le_refl _) _
    replace C0 := C0.keep ba (by omega)
    replace z0 : w.heap.size + 1 ≤ (V3.alloc (.cells #[.bool tn, .string ti, .string tf] 23)).heap.size := by have := ba.size; omega
    replace C1 := C1.keep ba (by omega)
    replace z1 : V2.heap.size + 1 ≤ (V3.alloc (.cells #[.bool tn, .string ti, .string tf] 23)).heap.size := by have := ba.size; omega
    replace HB := Lib.hid (HB.out.trans (ba.mono HB.out.size))
    clear ba
    have C2 : Cells3 (V3.alloc (.cells #[.bool tn, .string ti, .string tf] 23)) V3.heap.size (.bool tn) (.string ti) (.string tf) := (one_box V3 _ _ _ _).2.1
    have z2 : V3.heap.size + 1 ≤ (V3.alloc (.cells #[.bool tn, .string ti, .string tf] 23)).heap.size := by simp
    have o00 := C0.1
    have o10 := C1.1
    have o20 := C2.1
    have o01 := C0.2.1
    have o02 := C0.2.2
    have o11 := C1.2.1
    have o12 := C1.2.2
    have o21 := C2.2.1
    have o22 := C2.2.2
    go_wp2_with fail
    clear o00 o01 o02 o10 o11 o12 o20 o21 o22
    obtain ⟨V3x, hV3x⟩ : ∃ V3x, V3x = V3.alloc (.cells #[.bool tn, .string ti, .string tf] 23) := ⟨_, rfl⟩
    have HX := Lib.hid (show V3.heap.size + 1 = V3x.heap.size by rw [hV3x]; simp)
    rw [← hV3x]
    rw [← hV3x] at HB C0 z0 C1 z1 C2 z2
    clear hV3x
    (with_reducible refine (D3.out _).mono ?_)
    rintro e V4 ⟨rfl, hb⟩
    replace C0 := C0.keep hb (by omega)
    replace z0 : w.heap.size + 1 ≤ V4.heap.size := by have := hb.size; omega
    replace C1 := C1.keep hb (by omega)
    replace z1 : V2.heap.size + 1 ≤ V4.heap.size := by have := hb.size; omega
    replace C2 := C2.keep hb (by omega)
    replace z2 : V3.heap.size + 1 ≤ V4.heap.size := by have := hb.size; omega
    replace HB := Lib.hid (HB.out.trans (hb.mono HB.out.size))
    clear hb
    have o00 := C0.1
    have o10 := C1.1
    have o20 := C2.1
    have o01 := C0.2.1
    have o02 := C0.2.2
    have o11 := C1.2.1
    have o12 := C1.2.2
    have o21 := C2.2.1
    have o22 := C2.2.2
    go_wp2_with fail
    clear o00 o01 o02 o10 o11 o12 o20 o21 o22
    (with_reducible refine (D4.out _).mono ?_)
    rintro e V5 ⟨rfl, hb⟩
    replace C0 := C0.keep hb (by omega)
    replace z0 : w.heap.size + 1 ≤ V5.heap.size := by have := hb.size; omega
    replace C1 := C1.keep hb (by omega)
    replace z1 : V2.heap.size + 1 ≤ V5.heap.size := by have := hb.size; omega
    replace C2 := C2.keep hb (by omega)
    replace z2 : V3.heap.size + 1 ≤ V5.heap.size := by have := hb.size; omega
    replace HB := Lib.hid (HB.out.trans (hb.mono HB.out.size))
    clear hb
    have ba : Below V5.heap.size V5 (V5.alloc (.cells #[.bool pn, .string pi, .string pf] 23)) := (Below.refl _ _).alloc (Nat.le_refl _) _
    replace C0 := C0.keep ba (by omega)
    replace z0 : w.heap.size + 1 ≤ (V5.alloc (.cells #[.bool pn, .string pi, .string pf] 23)).heap.size := by have := ba.size; omega
    replace C1 := C1.keep ba (by omega)
    replace z1 : V2.heap.size + 1 ≤ (V5.alloc (.cells #[.bool pn, .string pi, .string pf] 23)).heap.size := by have := ba.size; omega
    replace C2 := C2.keep ba (by omega)
    replace z2 : V3.heap.size + 1 ≤ (V5.alloc (.cells #[.bool pn, .string pi, .string pf] 23)).heap.size := by have := ba.size; omega
    replace HB := Lib.hid (HB.out.trans (ba.mono HB.out.size))
    clear ba
    have C3 : Cells3 (V5.alloc (.cells #[.bool pn, .string pi, .string pf] 23)) V5.heap.size (.bool pn) (.string pi) (.string pf) := (one_box V5 _ _ _ _).2.1
    have z3 : V5.heap.size + 1 ≤ (V5.alloc (.cells #[.bool pn, .string pi, .string pf] 23)).heap.size := by simp
    have o00 := C0.1
    have o10 := C1.1
    have o20 := C2.1
    have o30 := C3.1
    have o01 := C0.2.1
    have o02 := C0.2.2
    have o11 := C1.2.1
    have o12 := C1.2.2
    have o21 := C2.2.1
    have o22 := C2.2.2
    have o31 := C3.2.1
    have o32 := C3.2.2
    go_wp2_with fail
    clear o00 o01 o02 o10 o11 o12 o20 o21 o22 o30 o31 o32
    obtain ⟨V5x, hV5x⟩ : ∃ V5x, V5x = V5.alloc (.cells #[.bool pn, .string pi, .string pf] 23) := ⟨_, rfl⟩
    have HX := Lib.hid (show V5.heap.size + 1 = V5x.heap.size by rw [hV5x]; simp)
    rw [← hV5x]
    rw [← hV5x] at HB C0 z0 C1 z1 C2 z2 C3 z3
    clear hV5x
    (with_reducible refine (D5.out _).mono ?_)
    rintro e V6 ⟨rfl, hb⟩
    replace C0 := C0.keep hb (by omega)
    replace z0 : w.heap.size + 1 ≤ V6.heap.size := by have := hb.size; omega
    replace C1 := C1.keep hb (by omega)
    replace z1 : V2.heap.size + 1 ≤ V6.heap.size := by have := hb.size; omega
    replace C2 := C2.keep hb (by omega)
    replace z2 : V3.heap.size + 1 ≤ V6.heap.size := by have := hb.size; omega
    replace C3 := C3.keep hb (by omega)
    replace z3 : V5.heap.size + 1 ≤ V6.heap.size := by have := hb.size; omega
    replace HB := Lib.hid (HB.out.trans (hb.mono HB.out.size))
    clear hb
    have o00 := C0.1
    have o10 := C1.1
    have o20 := C2.1
    have o30 := C3.1
    have o01 := C0.2.1
    have o02 := C0.2.2
    have o11 := C1.2.1
    have o12 := C1.2.2
    have o21 := C2.2.1
    have o22 := C2.2.2
    have o31 := C3.2.1
    have o32 := C3.2.2
    go_wp2_with fail
    clear o00 o01 o02 o10 o11 o12 o20 o21 o22 o30 o31 o32
    (with_reducible refine (D6.out _).mono ?_)
    rintro e V7 ⟨rfl, hb⟩
    replace C0 := C0.keep hb (by omega)
    replace z0 : w.heap.size + 1 ≤ V7.heap.size := by have := hb.size; omega
    replace C1 := C1.keep hb (by omega)
    replace z1 : V2.heap.size + 1 ≤ V7.heap.size := by have := hb.size; omega
    replace C2 := C2.keep hb (by omega)
    replace z2 : V3.heap.size + 1 ≤ V7.heap.size := by have := hb.size; omega
    replace C3 := C3.keep hb (by omega)
    replace z3 : V5.heap.size + 1 ≤ V7.heap.size := by have := hb.size; omega
    replace HB := Lib.hid (HB.out.trans (hb.mono HB.out.size))
    clear hb
    have ba : Below V7.heap.size V7 (V7.alloc (.cells #[.bool xn, .string xi, .string xf] 23)) := (Below.refl _ _).alloc (Nat.le_refl _) _
    replace C0 := C0.keep ba (by omega)
    replace z0 : w.heap.size + 1 ≤ (V7.alloc (.cells #[.bool xn, .string xi, .string xf] 23)).heap.size := by have := ba.size; omega
    replace C1 := C1.keep ba (by omega)
    replace z1 : V2.heap.size + 1 ≤ (V7.alloc (.cells #[.bool xn, .string xi, .string xf] 23)).heap.size := by have := ba.size; omega
    replace C2 := C2.keep ba (by omega)
    replace z2 : V3.heap.size + 1 ≤ (V7.alloc (.cells #[.bool xn, .string xi, .string xf] 23)).heap.size := by have := ba.size; omega
    replace C3 := C3.keep ba (by omega)
    replace z3 : V5.heap.size + 1 ≤ (V7.alloc (.cells #[.bool xn, .string xi, .string xf] 23)).heap.size := by have := ba.size; omega
    replace HB := Lib.hid (HB.out.trans (ba.mono HB.out.size))
    clear ba
    have C4 : Cells3 (V7.alloc (.cells #[.bool xn, .string xi, .string xf] 23)) V7.heap.size (.bool xn) (.string xi) (.string xf) := (one_box V7 _ _ _ _).2.1
    have z4 : V7.heap.size + 1 ≤ (V7.alloc (.cells #[.bool xn, .string xi, .string xf] 23)).heap.size := by simp
    have o00 := C0.1
    have o10 := C1.1
    have o20 := C2.1
    have o30 := C3.1
    have o40 := C4.1
    have o01 := C0.2.1
    have o02 := C0.2.2
    have o11 := C1.2.1
    have o12 := C1.2.2
    have o21 := C2.2.1
    have o22 := C2.2.2
    have o31 := C3.2.1
    have o32 := C3.2.2
    have o41 := C4.2.1
    have o42 := C4.2.2
    go_wp2_with fail
    clear o00 o01 o02 o10 o11 o12 o20 o21 o22 o30 o31 o32 o40 o41 o42
    obtain ⟨V7x, hV7x⟩ : ∃ V7x, V7x = V7.alloc (.cells #[.bool xn, .string xi, .string xf] 23) := ⟨_, rfl⟩
    have HX := Lib.hid (show V7.heap.size + 1 = V7x.heap.size by rw [hV7x]; simp)
    rw [← hV7x]
    rw [← hV7x] at HB C0 z0 C1 z1 C2 z2 C3 z3 C4 z4
    clear hV7x
    (with_reducible refine (D7.out _).mono ?_)
    rintro e V8 ⟨rfl, hb⟩
    replace C0 := C0.keep hb (by omega)
    replace z0 : w.heap.size + 1 ≤ V8.heap.size := by have := hb.size; omega
    replace C1 := C1.keep hb (by omega)
    replace z1 : V2.heap.size + 1 ≤ V8.heap.size := by have := hb.size; omega
    replace C2 := C2.keep hb (by omega)
    replace z2 : V3.heap.size + 1 ≤ V8.heap.size := by have := hb.size; omega
    replace C3 := C3.keep hb (by omega)
    replace z3 : V5.heap.size + 1 ≤ V8.heap.size := by have := hb.size; omega
    replace C4 := C4.keep hb (by omega)
    replace z4 : V7.heap.size + 1 ≤ V8.heap.size := by have := hb.size; omega
    replace HB := Lib.hid (HB.out.trans (hb.mono HB.out.size))
    clear hb
    have ba : Below V8.heap.size V8 (V8.alloc (.cells #[.bool false, .string ⟨#[]⟩, .string ⟨#[]⟩] 23)) := (Below.refl _ _).alloc (Nat.le_refl _) _
    replace C0 := C0.keep ba (by omega)
    replace z0 : w.heap.size + 1 ≤ (V8.alloc (.cells #[.bool false, .string ⟨#[]⟩, .string ⟨#[]⟩] 23)).heap.size := by have := ba.size; omega
    replace C1 := C1.keep ba (by omega)
    replace z1 : V2.heap.size + 1 ≤ (V8.alloc (.cells #[.bool false, .string ⟨#[]⟩, .string ⟨#[]⟩] 23)).heap.size := by have := ba.size; omega
    replace C2 := C2.keep ba (by omega)
    replace z2 : V3.heap.size + 1 ≤ (V8.alloc (.cells #[.bool false, .string ⟨#[]⟩, .string ⟨#[]⟩] 23)).heap.size := by have := ba.size; omega
    replace C3 := C3.keep ba (by omega)
    replace z3 : V5.heap.size + 1 ≤ (V8.alloc (.cells #[.bool false, .string ⟨#[]⟩, .string ⟨#[]⟩] 23)).heap.size := by have := ba.size; omega
    replace C4 := C4.keep ba (by omega)
    replace z4 : V7.heap.size + 1 ≤ (V8.alloc (.cells #[.bool false, .string ⟨#[]⟩, .string ⟨#[]⟩] 23)).heap.size := by have := ba.size; omega
    replace HB := Lib.hid (HB.out.trans (ba.mono HB.out.size))
    clear ba
    have C5 : Cells3 (V8.alloc (.cells #[.bool false, .string ⟨#[]⟩, .string ⟨#[]⟩] 23)) V8.heap.size (.bool false) (.string ⟨#[]⟩) (.string ⟨#[]⟩) := (one_box V8 _ _ _ _).2.1
    have z5 : V8.heap.size + 1 ≤ (V8.alloc (.cells #[.bool false, .string ⟨#[]⟩, .string ⟨#[]⟩] 23)).heap.size := by simp
    have o00 := C0.1
    have o10 := C1.1
    have o20 := C2.1
    have o30 := C3.1
    have o40 := C4.1
    have o50 := C5.1
    have o01 := C0.2.1
    have o02 := C0.2.2
    have o11 := C1.2.1
    have o12 := C1.2.2
    have o21 := C2.2.1
    have o22 := C2.2.2
    have o31 := C3.2.1
    have o32 := C3.2.2
    have o41 := C4.2.1
    have o42 := C4.2.2
    have o51 := C5.2.1
    have o52 := C5.2.2
    go_wp2
    go_ret
    exact ⟨rfl, HB.out⟩
  · have q8 : decide (k < (df.size : Int)) = false := decide_eq_false hc
    have q9 : ((pf.size : Int) != k) = false := by rw [he]; exact bne_self_eq_false _
    clear he
    go_enter Try.func12, Try.ntmps12
    go_wp2_with fail
    obtain ⟨W0, hW0⟩ : ∃ W0, W0 = (w.alloc (.cells #[.bool dn, .string di, .string df] 23)) := ⟨_, rfl⟩
    obtain ⟨hB, hz, C0, _⟩ : Below w.heap.size w W0 ∧ w.heap.size + 1 ≤ W0.heap.size ∧ Cells3 W0 w.heap.size (.bool dn) (.string di) (.string df) ∧ ∀ i, W0.frozen? ⟨w.heap.size, i, none⟩ = false := by rw [hW0]; exact ⟨(Below.refl _ w).alloc (Nat.le_refl _) _, one_box w _ _ _ _⟩
    have z0 : w.heap.size + 1 ≤ W0.heap.size := by omega
    rw [← hW0]
    have HB := Lib.hid hB
    clear hW0 hB hz
    (with_reducible refine (DW.out _).mono ?_)
    rintro e V1 ⟨rfl, hb⟩
    replace C0 := C0.keep hb (by omega)
    replace z0 : w.heap.size + 1 ≤ V1.heap.size := by have := hb.size; omega
    replace HB := Lib.hid (HB.out.trans (hb.mono HB.out.size))
    clear hb
    have o00 := C0.1
    have o01 := C0.2.1
    have o02 := C0.2.2
    go_wp2_with fail
    clear o00 o01 o02
    (with_reducible refine (D1.out _).mono ?_)
    rintro e V2 ⟨rfl, hb⟩
    replace C0 := C0.keep hb (by omega)
    replace z0 : w.heap.size + 1 ≤ V2.heap.size := by have := hb.size; omega
    replace HB := Lib.hid (HB.out.trans (hb.mono HB.out.size))
    clear hb
    have ba : Below V2.heap.size V2 (V2.alloc (.cells #[.bool tn, .string ti, .string tf] 23)) := (Below.refl _ _).alloc (Nat.le_refl _) _
    replace C0 := C0.keep ba (by omega)
    replace z0 : w.heap.size + 1 ≤ (V2.alloc (.cells #[.bool tn, .string ti, .string tf] 23)).heap.size := by have := ba.size; omega
    replace HB := Lib.hid (HB.out.trans (ba.mono HB.out.size))
    clear ba
    have C1 : Cells3 (V2.alloc (.cells #[.bool tn, .string ti, .string tf] 23)) V2.heap.size (.bool tn) (.string ti) (.string tf) := (one_box V2 _ _ _ _).2.1
    have z1 : V2.heap.size + 1 ≤ (V2.alloc (.cells #[.bool tn, .string ti, .string tf] 23)).heap.size := by simp
    have o00 := C0.1
    have o10 := C1.1
    have o01 := C0.2.1
    have o02 := C0.2.2
    have o11 := C1.2.1
    have o12 := C1.2.2
    go_wp2_with fail
    clear o00 o01 o02 o10 o11 o12
    obtain ⟨V2x, hV2x⟩ : ∃ V2x, V2x = V2.alloc (.cells #[.bool tn, .string ti, .string tf] 23) := ⟨_, rfl⟩
    have HX := Lib.hid (show V2.heap.size + 1 = V2x.heap.size by rw [hV2x]; simp)
    rw [← hV2x]
    rw [← hV2x] at HB C0 z0 C1 z1
    clear hV2x
    (with_reducible refine (D2.out _).mono ?_)
    rintro e V3 ⟨rfl, hb⟩
    replace C0 := C0.keep hb (by omega)
    replace z0 : w.heap.size + 1 ≤ V3.heap.size := by have := hb.size; omega
    replace C1 := C1.keep hb (by omega)
    replace z1 : V2.heap.size + 1 ≤ V3.heap.size := by have := hb.size; omega
    replace HB := Lib.hid (HB.out.trans (hb.mono HB.out.size))
    clear hb
    have ba : Below V3.heap.size V3 (V3.alloc (.cells #[.bool tn, .string ti, .string tf] 23)) := (Below.refl _ _).alloc (Nat.le_refl _) _
    replace C0 := C0.keep ba (by omega)
    replace z0 : w.heap.size + 1 ≤ (V3.alloc (.cells #[.bool tn, .string ti, .string tf] 23)).heap.size := by have := ba.size; omega
    replace C1 := C1.keep ba (by omega)
    replace z1 : V2.heap.size + 1 ≤ (V3.alloc (.cells #[.bool tn, .string ti, .string tf] 23)).heap.size := by have := ba.size; omega
    replace HB := Lib.hid (HB.out.trans (ba.mono HB.out.size))
    clear ba
    have C2 : Cells3 (V3.alloc (.cells #[.bool tn, .string ti, .string tf] 23)) V3.heap.size (.bool tn) (.string ti) (.string tf) := (one_box V3 _ _ _ _).2.1
    have z2 : V3.heap.size + 1 ≤ (V3.alloc (.cells #[.bool tn, .string ti, .string tf] 23)).heap.size := by simp
    have o00 := C0.1
    have o10 := C1.1
    have o20 := C2.1
    have o01 := C0.2.1
    have o02 := C0.2.2
    have o11 := C1.2.1
    have o12 := C1.2.2
    have o21 := C2.2.1
    have o22 := C2.2.2
    go_wp2_with fail
    clear o00 o01 o02 o10 o11 o12 o20 o21 o22
    obtain ⟨V3x, hV3x⟩ : ∃ V3x, V3x = V3.alloc (.cells #[.bool tn, .string ti, .string tf] 23) := ⟨_, rfl⟩
    have HX := Lib.hid (show V3.heap.size + 1 = V3x.heap.size by rw [hV3x]; simp)
    rw [← hV3x]
    rw [← hV3x] at HB C0 z0 C1 z1 C2 z2
    clear hV3x
    (with_reducible refine (D3.out _).mono ?_)
    rintro e V4 ⟨rfl, hb⟩
    replace C0 := C0.keep hb (by omega)
    replace z0 : w.heap.size + 1 ≤ V4.heap.size := by have := hb.size; omega
    replace C1 := C1.keep hb (by omega)
    replace z1 : V2.heap.size + 1 ≤ V4.heap.size := by have := hb.size; omega
    replace C2 := C2.keep hb (by omega)
    replace z2 : V3.heap.size + 1 ≤ V4.heap.size := by have := hb.size; omega
    replace HB := Lib.hid (HB.out.trans (hb.mono HB.out.size))
    clear hb
    have o00 := C0.1
    have o10 := C1.1
    have o20 := C2.1
    have o01 := C0.2.1
    have o02 := C0.2.2
    have o11 := C1.2.1
    have o12 := C1.2.2
    have o21 := C2.2.1
    have o22 := C2.2.2
    go_wp2_with fail
    clear o00 o01 o02 o10 o11 o12 o20 o21 o22
    (with_reducible refine (D4.out _).mono ?_)
    rintro e V5 ⟨rfl, hb⟩
    replace C0 := C0.keep hb (by omega)
    replace z0 : w.heap.size + 1 ≤ V5.heap.size := by have := hb.size; omega
    replace C1 := C1.keep hb (by omega)
    replace z1 : V2.heap.size + 1 ≤ V5.heap.size := by have := hb.size; omega
    replace C2 := C2.keep hb (by omega)
    replace z2 : V3.heap.size + 1 ≤ V5.heap.size := by have := hb.size; omega
    replace HB := Lib.hid (HB.out.trans (hb.mono HB.out.size))
    clear hb
    have ba : Below V5.heap.size V5 (V5.alloc (.cells #[.bool pn, .string pi, .string pf] 23)) := (Below.refl _ _).alloc (Nat.le_refl _) _
    replace C0 := C0.keep ba (by omega)
    replace z0 : w.heap.size + 1 ≤ (V5.alloc (.cells #[.bool pn, .string pi, .string pf] 23)).heap.size := by have := ba.size; omega
    replace C1 := C1.keep ba (by omega)
    replace z1 : V2.heap.size + 1 ≤ (V5.alloc (.cells #[.bool pn, .string pi, .string pf] 23)).heap.size := by have := ba.size; omega
    replace C2 := C2.keep ba (by omega)
    replace z2 : V3.heap.size + 1 ≤ (V5.alloc (.cells #[.bool pn, .string pi, .string pf] 23)).heap.size := by have := ba.size; omega
    replace HB := Lib.hid (HB.out.trans (ba.mono HB.out.size))
    clear ba
    have C3 : Cells3 (V5.alloc (.cells #[.bool pn, .string pi, .string pf] 23)) V5.heap.size (.bool pn) (.string pi) (.string pf) := (one_box V5 _ _ _ _).2.1
    have z3 : V5.heap.size + 1 ≤ (V5.alloc (.cells #[.bool pn, .string pi, .string pf] 23)).heap.size := by simp
    have o00 := C0.1
    have o10 := C1.1
    have o20 := C2.1
    have o30 := C3.1
    have o01 := C0.2.1
    have o02 := C0.2.2
    have o11 := C1.2.1
    have o12 := C1.2.2
    have o21 := C2.2.1
    have o22 := C2.2.2
    have o31 := C3.2.1
    have o32 := C3.2.2
    go_wp2_with fail
    clear o00 o01 o02 o10 o11 o12 o20 o21 o22 o30 o31 o32
    obtain ⟨V5x, hV5x⟩ : ∃ V5x, V5x = V5.alloc (.cells #[.bool pn, .string pi, .string pf] 23) := ⟨_, rfl⟩
    have HX := Lib.hid (show V5.heap.size + 1 = V5x.heap.size by rw [hV5x]; simp)
    rw [← hV5x]
    rw [← hV5x] at HB C0 z0 C1 z1 C2 z2 C3 z3
    clear hV5x
    (with_reducible refine (D5.out _).mono ?_)
    rintro e V6 ⟨rfl, hb⟩
    replace C0 := C0.keep hb (by omega)
    replace z0 : w.heap.size + 1 ≤ V6.heap.size := by have := hb.size; omega
    replace C1 := C1.keep hb (by omega)
    replace z1 : V2.heap.size + 1 ≤ V6.heap.size := by have := hb.size; omega
    replace C2 := C2.keep hb (by omega)
    replace z2 : V3.heap.size + 1 ≤ V6.heap.size := by have := hb.size; omega
    replace C3 := C3.keep hb (by omega)
    replace z3 : V5.heap.size + 1 ≤ V6.heap.size := by have := hb.size; omega
    replace HB := Lib.hid (HB.out.trans (hb.mono HB.out.size))
    clear hb
    have o00 := C0.1
    have o10 := C1.1
    have o20 := C2.1
    have o30 := C3.1
    have o01 := C0.2.1
    have o02 := C0.2.2
    have o11 := C1.2.1
    have o12 := C1.2.2
    have o21 := C2.2.1
    have o22 := C2.2.2
    have o31 := C3.2.1
    have o32 := C3.2.2
    go_wp2_with fail
    clear o00 o01 o02 o10 o11 o12 o20 o21 o22 o30 o31 o32
    (with_reducible refine (D6.out _).mono ?_)
    rintro e V7 ⟨rfl, hb⟩
    replace C0 := C0.keep hb (by omega)
    replace z0 : w.heap.size + 1 ≤ V7.heap.size := by have := hb.size; omega
    replace C1 := C1.keep hb (by omega)
    replace z1 : V2.heap.size + 1 ≤ V7.heap.size := by have := hb.size; omega
    replace C2 := C2.keep hb (by omega)
    replace z2 : V3.heap.size + 1 ≤ V7.heap.size := by have := hb.size; omega
    replace C3 := C3.keep hb (by omega)
    replace z3 : V5.heap.size + 1 ≤ V7.heap.size := by have := hb.size; omega
    replace HB := Lib.hid (HB.out.trans (hb.mono HB.out.size))
    clear hb
    have ba : Below V7.heap.size V7 (V7.alloc (.cells #[.bool xn, .string xi, .string xf] 23)) := (Below.refl _ _).alloc (Nat.le_refl _) _
    replace C0 := C0.keep ba (by omega)
    replace z0 : w.heap.size + 1 ≤ (V7.alloc (.cells #[.bool xn, .string xi, .string xf] 23)).heap.size := by have := ba.size; omega
    replace C1 := C1.keep ba (by omega)
    replace z1 : V2.heap.size + 1 ≤ (V7.alloc (.cells #[.bool xn, .string xi, .string xf] 23)).heap.size := by have := ba.size; omega
    replace C2 := C2.keep ba (by omega)
    replace z2 : V3.heap.size + 1 ≤ (V7.alloc (.cells #[.bool xn, .string xi, .string xf] 23)).heap.size := by have := ba.size; omega
    replace C3 := C3.keep ba (by omega)
    replace z3 : V5.heap.size + 1 ≤ (V7.alloc (.cells #[.bool xn, .string xi, .string xf] 23)).heap.size := by have := ba.size; omega
    replace HB := Lib.hid (HB.out.trans (ba.mono HB.out.size))
    clear ba
    have C4 : Cells3 (V7.alloc (.cells #[.bool xn, .string xi, .string xf] 23)) V7.heap.size (.bool xn) (.string xi) (.string xf) := (one_box V7 _ _ _ _).2.1
    have z4 : V7.heap.size + 1 ≤ (V7.alloc (.cells #[.bool xn, .string xi, .string xf] 23)).heap.size := by simp
    have o00 := C0.1
    have o10 := C1.1
    have o20 := C2.1
    have o30 := C3.1
    have o40 := C4.1
    have o01 := C0.2.1
    have o02 := C0.2.2
    have o11 := C1.2.1
    have o12 := C1.2.2
    have o21 := C2.2.1
    have o22 := C2.2.2
    have o31 := C3.2.1
    have o32 := C3.2.2
    have o41 := C4.2.1
    have o42 := C4.2.2
    go_wp2_with fail
    clear o00 o01 o02 o10 o11 o12 o20 o21 o22 o30 o31 o32 o40 o41 o42
    obtain ⟨V7x, hV7x⟩ : ∃ V7x, V7x = V7.alloc (.cells #[.bool xn, .string xi, .string xf] 23) := ⟨_, rfl⟩
    have HX := Lib.hid (show V7.heap.size + 1 = V7x.heap.size by rw [hV7x]; simp)
    rw [← hV7x]
    rw [← hV7x] at HB C0 z0 C1 z1 C2 z2 C3 z3 C4 z4
    clear hV7x
    (with_reducible refine (D7.out _).mono ?_)
    rintro e V8 ⟨rfl, hb⟩
    replace C0 := C0.keep hb (by omega)
    replace z0 : w.heap.size + 1 ≤ V8.heap.size := by have := hb.size; omega
    replace C1 := C1.keep hb (by omega)
    replace z1 : V2.heap.size + 1 ≤ V8.heap.size := by have := hb.size; omega
    replace C2 := C2.keep hb (by omega)
    replace z2 : V3.heap.size + 1 ≤ V8.heap.size := by have := hb.size; omega
    replace C3 := C3.keep hb (by omega)
    replace z3 : V5.heap.size + 1 ≤ V8.heap.size := by have := hb.size; omega
    replace C4 := C4.keep hb (by omega)
    replace z4 : V7.heap.size + 1 ≤ V8.heap.size := by have := hb.size; omega
    replace HB := Lib.hid (HB.out.trans (hb.mono HB.out.size))
    clear hb
    have ba : Below V8.heap.size V8 (V8.alloc (.cells #[.bool false, .string ⟨#[]⟩, .string ⟨#[]⟩] 23)) := (Below.refl _ _).alloc (Nat.le_refl _) _
    replace C0 := C0.keep ba (by omega)
    replace z0 : w.heap.size + 1 ≤ (V8.alloc (.cells #[.bool false, .string ⟨#[]⟩, .string ⟨#[]⟩] 23)).heap.size := by have := ba.size; omega
    replace C1 := C1.keep ba (by omega)
    replace z1 : V2.heap.size + 1 ≤ (V8.alloc (.cells #[.bool false, .string ⟨#[]⟩, .string ⟨#[]⟩] 23)).heap.size := by have := ba.size; omega
    replace C2 := C2.keep ba (by omega)
    replace z2 : V3.heap.size + 1 ≤ (V8.alloc (.cells #[.bool false, .string ⟨#[]⟩, .string ⟨#[]⟩] 23)).heap.size := by have := ba.size; omega
    replace C3 := C3.keep ba (by omega)
    replace z3 : V5.heap.size + 1 ≤ (V8.alloc (.cells #[.bool false, .string ⟨#[]⟩, .string ⟨#[]⟩] 23)).heap.size := by have := ba.size; omega
    replace C4 := C4.keep ba (by omega)
    replace z4 : V7.heap.size + 1 ≤ (V8.alloc (.cells #[.bool false, .string ⟨#[]⟩, .string ⟨#[]⟩] 23)).heap.size := by have := ba.size; omega
    replace HB := Lib.hid (HB.out.trans (ba.mono HB.out.size))
    clear ba
    have C5 : Cells3 (V8.alloc (.cells #[.bool false, .string ⟨#[]⟩, .string ⟨#[]⟩] 23)) V8.heap.size (.bool false) (.string ⟨#[]⟩) (.string ⟨#[]⟩) := (one_box V8 _ _ _ _).2.1
    have z5 : V8.heap.size + 1 ≤ (V8.alloc (.cells #[.bool false, .string ⟨#[]⟩, .string ⟨#[]⟩] 23)).heap.size := by simp
    have o00 := C0.1
    have o10 := C1.1
    have o20 := C2.1
    have o30 := C3.1
    have o40 := C4.1
    have o50 := C5.1
    have o01 := C0.2.1
    have o02 := C0.2.2
    have o11 := C1.2.1
    have o12 := C1.2.2
    have o21 := C2.2.1
    have o22 := C2.2.2
    have o31 := C3.2.1
    have o32 := C3.2.2
    have o41 := C4.2.1
    have o42 := C4.2.2
    have o51 := C5.2.1
    have o52 := C5.2.2
    go_wp2
    go_ret
    exact ⟨rfl, HB.out⟩

set_option maxHeartbeats 4000000 in
set_option maxRecDepth 100000 in
theorem shifts_o2 (dn tn : Bool) (di df ti tf : ByteArray) (n k : Int) (w : World) (hn2 : n ≤ 9223372036854775807) (pn : Bool) (pi pf : ByteArray) (xn : Bool) (xi xf : ByteArray) (yn : Bool) (yi yf : ByteArray) (H1 : ∀ wx : World, Calls Try.prog 34 #[(.agg #[.bool dn, .string di, .string df])] wx fun e w' => e = .returned (.tuple #[(.agg #[.bool tn, .string ti, .string tf]), .int .i64 0]) ∧ Below wx.heap.size wx w') (H2 : ∀ wx : World, Calls Try.prog 34 #[(.agg #[.bool tn, .string ti, .string tf])] wx fun e w' => e = .returned (.tuple #[(.agg #[.bool tn, .string ti, .string tf]), .int .i64 0]) ∧ Below wx.heap.size wx w') (H3 : ∀ wx : World, Calls Try.prog 41 #[(.agg #[.bool tn, .string ti, .string tf]), (.agg #[.bool dn, .string di, .string df])] wx fun e w' => e = .returned (.bool true) ∧ Below wx.heap.size wx w') (H4 : ∀ wx : World, Calls Try.prog 36 #[(.agg #[.bool dn, .string di, .string df]), .int .i64 k] wx fun e w' => e = .returned (.tuple #[(.agg #[.bool pn, .string pi, .string pf]), .int .i64 0]) ∧ Below wx.heap.size wx w') (H5 : ∀ wx : World, Calls Try.prog 41 #[(.agg #[.bool pn, .string pi, .string pf]), (.agg #[.bool dn, .string di, .string df])] wx fun e w' => e = .returned (.bool true) ∧ Below wx.heap.size wx w') (H6 : ∀ wx : World, Calls Try.prog 38 #[(.agg #[.bool dn, .string di, .string df]), .int .i64 n] wx fun e w' => e = .returned (.tuple #[(.agg #[.bool xn, .string xi, .string xf]), .int .i64 0]) ∧ Below wx.heap.size wx w') (H7 : ∀ wx : World, Calls Try.prog 38 #[(.agg #[.bool xn, .string xi, .string xf]), .int .i64 (-n)] wx fun e w' => e = .returned (.tuple #[(.agg #[.bool yn, .string yi, .string yf]), .int .i64 0]) ∧ Below wx.heap.size wx w') (H8 : ∀ wx : World, Calls Try.prog 41 #[(.agg #[.bool yn, .string yi, .string yf]), (.agg #[.bool dn, .string di, .string df])] wx fun e w' => e = .returned (.bool true) ∧ Below wx.heap.size wx w') (hlen : ((pf.size : Nat) : Int) = max k ((df.size : Nat) : Int)) (hnr : -9223372036854775808 < n) :
    Calls Try.prog 12 #[(.agg #[.bool dn, .string di, .string df]), .int .i64 n, .int .i64 k] w fun e w' => e = .returned (.bool true) ∧ Below w.heap.size w w' := by
  have DW := Lib.hid awake_any
  have D1 := Lib.hid H1
  have D2 := Lib.hid H2
  have D3 := Lib.hid H3
  have D4 := Lib.hid H4
  have D5 := Lib.hid H5
  have D6 := Lib.hid H6
  have D7 := Lib.hid H7
  have D8 := Lib.hid H8
  clear H1 H2 H3 H4 H5 H6 H7 H8
  have q1 : (tn == tn) = true := beq_self_eq_true _
  have q2 : (ti.toList == ti.toList) = true := beq_self_eq_true _
  have q3 : (tf.toList == tf.toList) = true := beq_self_eq_true _
  have hc : (k < (df.size : Int) ∧ (pf.size : Int) = (df.size : Int)) ∨ (¬ k < (df.size : Int) ∧ (pf.size : Int) = k) := by omega
  clear hlen
  rcases hc with ⟨hc, he⟩ | ⟨hc, he⟩
  · have q8 : decide (k < (df.size : Int)) = true := decide_eq_true hc
    have q9 : ((pf.size : Int) != (df.size : Int)) = false := by rw [he]; exact bne_self_eq_false _
    have q10 : (pf.size != df.size) = false := by rw [show pf.size = df.size by omega]; exact bne_self_eq_false _
    clear he
    go_enter Try.func12, Try.ntmps12
    go_wp2_with fail
    obtain ⟨W0, hW0⟩ : ∃ W0, W0 = (w.alloc (.cells #[.bool dn, .string di, .string df] 23)) := ⟨_, rfl⟩
    obtain ⟨hB, hz, C0, _⟩ : Below w.heap.size w W0 ∧ w.heap.size + 1 ≤ W0.heap.size ∧ Cells3 W0 w.heap.size (.bool dn) (.string di) (.string df) ∧ ∀ i, W0.frozen? ⟨w.heap.size, i, none⟩ = false := by rw [hW0]; exact ⟨(Below.refl _ w).alloc (Nat.le_refl _) _, one_box w _ _ _ _⟩
    have z0 : w.heap.size + 1 ≤ W0.heap.size := by omega
    rw [← hW0]
    have HB := Lib.hid hB
    clear hW0 hB hz
    (with_reducible refine (DW.out _).mono ?_)
    rintro e V1 ⟨rfl, hb⟩
    replace C0 := C0.keep hb (by omega)
    replace z0 : w.heap.size + 1 ≤ V1.heap.size := by have := hb.size; omega
    replace HB := Lib.hid (HB.out.trans (hb.mono HB.out.size))
    clear hb
    have o00 := C0.1
    have o01 := C0.2.1
    have o02 := C0.2.2
    go_wp2_with fail
    clear o00 o01 o02
    (with_reducible refine (D1.out _).mono ?_)
    rintro e V2 ⟨rfl, hb⟩
    replace C0 := C0.keep hb (by omega)
    replace z0 : w.heap.size + 1 ≤ V2.heap.size := by have := hb.size; omega
    replace HB := Lib.hid (HB.out.trans (hb.mono HB.out.size))
    clear hb
    have ba : Below V2.heap.size V2 (V2.alloc (.cells #[.bool tn, .string ti, .string tf] 23)) := (Below.refl _ _).alloc (Nat.le_refl _) _
    replace C0 := C0.keep ba (by omega)
    replace z0 : w.heap.size + 1 ≤ (V2.alloc (.cells #[.bool tn, .string ti, .string tf] 23)).heap.size := by have := ba.size; omega
    replace HB := Lib.hid (HB.out.trans (ba.mono HB.out.size))
    clear ba
    have C1 : Cells3 (V2.alloc (.cells #[.bool tn, .string ti, .string tf] 23)) V2.heap.size (.bool tn) (.string ti) (.string tf) := (one_box V2 _ _ _ _).2.1
    have z1 : V2.heap.size + 1 ≤ (V2.alloc (.cells #[.bool tn, .string ti, .string tf] 23)).heap.size := by simp
    have o00 := C0.1
    have o10 := C1.1
    have o01 := C0.2.1
    have o02 := C0.2.2
    have o11 := C1.2.1
    have o12 := C1.2.2
    go_wp2_with fail
    clear o00 o01 o02 o10 o11 o12
    obtain ⟨V2x, hV2x⟩ : ∃ V2x, V2x = V2.alloc (.cells #[.bool tn, .string ti, .string tf] 23) := ⟨_, rfl⟩
    have HX := Lib.hid (show V2.heap.size + 1 = V2x.heap.size by rw [hV2x]; simp)
    rw [← hV2x]
    rw [← hV2x] at HB C0 z0 C1 z1
    clear hV2x
    (with_reducible refine (D2.out _).mono ?_)
    rintro e V3 ⟨rfl, hb⟩
    replace C0 := C0.keep hb (by omega)
    replace z0 : w.heap.size + 1 ≤ V3.heap.size := by have := hb.size; omega
    replace C1 := C1.keep hb (by omega)
    replace z1 : V2.heap.size + 1 ≤ V3.heap.size := by have := hb.size; omega
    replace HB := Lib.hid (HB.out.trans (hb.mono HB.out.size))
    clear hb
    have ba : Below V3.heap.size V3 (V3.alloc (.cells #[.bool tn, .string ti, .string tf] 23)) := (Below.refl _ _).alloc (Nat.le_refl _) _
    replace C0 := C0.keep ba (by omega)
    replace z0 : w.heap.size + 1 ≤ (V3.alloc (.cells #[.bool tn, .string ti, .string tf] 23)).heap.size := by have := ba.size; omega
    replace C1 := C1.keep ba (by omega)
    replace z1 : V2.heap.size + 1 ≤ (V3.alloc (.cells #[.bool tn, .string ti, .string tf] 23)).heap.size := by have := ba.size; omega
    replace HB := Lib.hid (HB.out.trans (ba.mono HB.out.size))
    clear ba
    have C2 : Cells3 (V3.alloc (.cells #[.bool tn, .string ti, .string tf] 23)) V3.heap.size (.bool tn) (.string ti) (.string tf) := (one_box V3 _ _ _ _).2.1
    have z2 : V3.heap.size + 1 ≤ (V3.alloc (.cells #[.bool tn, .string ti, .string tf] 23)).heap.size := by simp
    have o00 := C0.1
    have o10 := C1.1
    have o20 := C2.1
    have o01 := C0.2.1
    have o02 := C0.2.2
    have o11 := C1.2.1
    have o12 := C1.2.2
    have o21 := C2.2.1
    have o22 := C2.2.2
    go_wp2_with fail
    clear o00 o01 o02 o10 o11 o12 o20 o21 o22
    obtain ⟨V3x, hV3x⟩ : ∃ V3x, V3x = V3.alloc (.cells #[.bool tn, .string ti, .string tf] 23) := ⟨_, rfl⟩
    have HX := Lib.hid (show V3.heap.size + 1 = V3x.heap.size by rw [hV3x]; simp)
    rw [← hV3x]
    rw [← hV3x] at HB C0 z0 C1 z1 C2 z2
    clear hV3x
    (with_reducible refine (D3.out _).mono ?_)
    rintro e V4 ⟨rfl, hb⟩
    replace C0 := C0.keep hb (by omega)
    replace z0 : w.heap.size + 1 ≤ V4.heap.size := by have := hb.size; omega
    replace C1 := C1.keep hb (by omega)
    replace z1 : V2.heap.size + 1 ≤ V4.heap.size := by have := hb.size; omega
    replace C2 := C2.keep hb (by omega)
    replace z2 : V3.heap.size + 1 ≤ V4.heap.size := by have := hb.size; omega
    replace HB := Lib.hid (HB.out.trans (hb.mono HB.out.size))
    clear hb
    have o00 := C0.1
    have o10 := C1.1
    have o20 := C2.1
    have o01 := C0.2.1
    have o02 := C0.2.2
    have o11 := C1.2.1
    have o12 := C1.2.2
    have o21 := C2.2.1
    have o22 := C2.2.2
    go_wp2_with fail
    clear o00 o01 o02 o10 o11 o12 o20 o21 o22
    (with_reducible refine (D4.out _).mono ?_)
    rintro e V5 ⟨rfl, hb⟩
    replace C0 := C0.keep hb (by omega)
    replace z0 : w.heap.size + 1 ≤ V5.heap.size := by have := hb.size; omega
    replace C1 := C1.keep hb (by omega)
    replace z1 : V2.heap.size + 1 ≤ V5.heap.size := by have := hb.size; omega
    replace C2 := C2.keep hb (by omega)
    replace z2 : V3.heap.size + 1 ≤ V5.heap.size := by have := hb.size; omega
    replace HB := Lib.hid (HB.out.trans (hb.mono HB.out.size))
    clear hb
    have ba : Below V5.heap.size V5 (V5.alloc (.cells #[.bool pn, .string pi, .string pf] 23)) := (Below.refl _ _).alloc (Nat.le_refl _) _
    replace C0 := C0.keep ba (by omega)
    replace z0 : w.heap.size + 1 ≤ (V5.alloc (.cells #[.bool pn, .string pi, .string pf] 23)).heap.size := by have := ba.size; omega
    replace C1 := C1.keep ba (by omega)
    replace z1 : V2.heap.size + 1 ≤ (V5.alloc (.cells #[.bool pn, .string pi, .string pf] 23)).heap.size := by have := ba.size; omega
    replace C2 := C2.keep ba (by omega)
    replace z2 : V3.heap.size + 1 ≤ (V5.alloc (.cells #[.bool pn, .string pi, .string pf] 23)).heap.size := by have := ba.size; omega
    replace HB := Lib.hid (HB.out.trans (ba.mono HB.out.size))
    clear ba
    have C3 : Cells3 (V5.alloc (.cells #[.bool pn, .string pi, .string pf] 23)) V5.heap.size (.bool pn) (.string pi) (.string pf) := (one_box V5 _ _ _ _).2.1
    have z3 : V5.heap.size + 1 ≤ (V5.alloc (.cells #[.bool pn, .string pi, .string pf] 23)).heap.size := by simp
    have o00 := C0.1
    have o10 := C1.1
    have o20 := C2.1
    have o30 := C3.1
    have o01 := C0.2.1
    have o02 := C0.2.2
    have o11 := C1.2.1
    have o12 := C1.2.2
    have o21 := C2.2.1
    have o22 := C2.2.2
    have o31 := C3.2.1
    have o32 := C3.2.2
    go_wp2_with fail
    clear o00 o01 o02 o10 o11 o12 o20 o21 o22 o30 o31 o32
    obtain ⟨V5x, hV5x⟩ : ∃ V5x, V5x = V5.alloc (.cells #[.bool pn, .string pi, .string pf] 23) := ⟨_, rfl⟩
    have HX := Lib.hid (show V5.heap.size + 1 = V5x.heap.size by rw [hV5x]; simp)
    rw [← hV5x]
    rw [← hV5x] at HB C0 z0 C1 z1 C2 z2 C3 z3
    clear hV5x
    (with_reducible refine (D5.out _).mono ?_)
    rintro e V6 ⟨rfl, hb⟩
    replace C0 := C0.keep hb (by omega)
    replace z0 : w.heap.size + 1 ≤ V6.heap.size := by have := hb.size; omega
    replace C1 := C1.keep hb (by omega)
    replace z1 : V2.heap.size + 1 ≤ V6.heap.size := by have := hb.size; omega
    replace C2 := C2.keep hb (by omega)
    replace z2 : V3.heap.size + 1 ≤ V6.heap.size := by have := hb.size; omega
    replace C3 := C3.keep hb (by omega)
    replace z3 : V5.heap.size + 1 ≤ V6.heap.size := by have := hb.size; omega
    replace HB := Lib.hid (HB.out.trans (hb.mono HB.out.size))
    clear hb
    have o00 := C0.1
    have o10 := C1.1
    have o20 := C2.1
    have o30 := C3.1
    have o01 := C0.2.1
    have o02 := C0.2.2
    have o11 := C1.2.1
    have o12 := C1.2.2
    have o21 := C2.2.1
    have o22 := C2.2.2
    have o31 := C3.2.1
    have o32 := C3.2.2
    go_wp2_with fail
    clear o00 o01 o02 o10 o11 o12 o20 o21 o22 o30 o31 o32
    (with_reducible refine (D6.out _).mono ?_)
    rintro e V7 ⟨rfl, hb⟩
    replace C0 := C0.keep hb (by omega)
    replace z0 : w.heap.size + 1 ≤ V7.heap.size := by have := hb.size; omega
    replace C1 := C1.keep hb (by omega)
    replace z1 : V2.heap.size + 1 ≤ V7.heap.size := by have := hb.size; omega
    replace C2 := C2.keep hb (by omega)
    replace z2 : V3.heap.size + 1 ≤ V7.heap.size := by have := hb.size; omega
    replace C3 := C3.keep hb (by omega)
    replace z3 : V5.heap.size + 1 ≤ V7.heap.size := by have := hb.size; omega
    replace HB := Lib.hid (HB.out.trans (hb.mono HB.out.size))
    clear hb
    have ba : Below V7.heap.size V7 (V7.alloc (.cells #[.bool xn, .string xi, .string xf] 23)) := (Below.refl _ _).alloc (Nat.le_refl _) _
    replace C0 := C0.keep ba (by omega)
    replace z0 : w.heap.size + 1 ≤ (V7.alloc (.cells #[.bool xn, .string xi, .string xf] 23)).heap.size := by have := ba.size; omega
    replace C1 := C1.keep ba (by omega)
    replace z1 : V2.heap.size + 1 ≤ (V7.alloc (.cells #[.bool xn, .string xi, .string xf] 23)).heap.size := by have := ba.size; omega
    replace C2 := C2.keep ba (by omega)
    replace z2 : V3.heap.size + 1 ≤ (V7.alloc (.cells #[.bool xn, .string xi, .string xf] 23)).heap.size := by have := ba.size; omega
    replace C3 := C3.keep ba (by omega)
    replace z3 : V5.heap.size + 1 ≤ (V7.alloc (.cells #[.bool xn, .string xi, .string xf] 23)).heap.size := by have := ba.size; omega
    replace HB := Lib.hid (HB.out.trans (ba.mono HB.out.size))
    clear ba
    have C4 : Cells3 (V7.alloc (.cells #[.bool xn, .string xi, .string xf] 23)) V7.heap.size (.bool xn) (.string xi) (.string xf) := (one_box V7 _ _ _ _).2.1
    have z4 : V7.heap.size + 1 ≤ (V7.alloc (.cells #[.bool xn, .string xi, .string xf] 23)).heap.size := by simp
    have o00 := C0.1
    have o10 := C1.1
    have o20 := C2.1
    have o30 := C3.1
    have o40 := C4.1
    have o01 := C0.2.1
    have o02 := C0.2.2
    have o11 := C1.2.1
    have o12 := C1.2.2
    have o21 := C2.2.1
    have o22 := C2.2.2
    have o31 := C3.2.1
    have o32 := C3.2.2
    have o41 := C4.2.1
    have o42 := C4.2.2
    go_wp2_with fail
    clear o00 o01 o02 o10 o11 o12 o20 o21 o22 o30 o31 o32 o40 o41 o42
    obtain ⟨V7x, hV7x⟩ : ∃ V7x, V7x = V7.alloc (.cells #[.bool xn, .string xi, .string xf] 23) := ⟨_, rfl⟩
    have HX := Lib.hid (show V7.heap.size + 1 = V7x.heap.size by rw [hV7x]; simp)
    rw [← hV7x]
    rw [← hV7x] at HB C0 z0 C1 z1 C2 z2 C3 z3 C4 z4
    clear hV7x
    (with_reducible refine (D7.out _).mono ?_)
    rintro e V8 ⟨rfl, hb⟩
    replace C0 := C0.keep hb (by omega)
    replace z0 : w.heap.size + 1 ≤ V8.heap.size := by have := hb.size; omega
    replace C1 := C1.keep hb (by omega)
    replace z1 : V2.heap.size + 1 ≤ V8.heap.size := by have := hb.size; omega
    replace C2 := C2.keep hb (by omega)
    replace z2 : V3.heap.size + 1 ≤ V8.heap.size := by have := hb.size; omega
    replace C3 := C3.keep hb (by omega)
    replace z3 : V5.heap.size + 1 ≤ V8.heap.size := by have := hb.size; omega
    replace C4 := C4.keep hb (by omega)
    replace z4 : V7.heap.size + 1 ≤ V8.heap.size := by have := hb.size; omega
    replace HB := Lib.hid (HB.out.trans (hb.mono HB.out.size))
    clear hb
    have ba : Below V8.heap.size V8 (V8.alloc (.cells #[.bool yn, .string yi, .string yf] 23)) := (Below.refl _ _).alloc (Nat.le_refl _) _
    replace C0 := C0.keep ba (by omega)
    replace z0 : w.heap.size + 1 ≤ (V8.alloc (.cells #[.bool yn, .string yi, .string yf] 23)).heap.size := by have := ba.size; omega
    replace C1 := C1.keep ba (by omega)
    replace z1 : V2.heap.size + 1 ≤ (V8.alloc (.cells #[.bool yn, .string yi, .string yf] 23)).heap.size := by have := ba.size; omega
    replace C2 := C2.keep ba (by omega)
    replace z2 : V3.heap.size + 1 ≤ (V8.alloc (.cells #[.bool yn, .string yi, .string yf] 23)).heap.size := by have := ba.size; omega
    replace C3 := C3.keep ba (by omega)
    replace z3 : V5.heap.size + 1 ≤ (V8.alloc (.cells #[.bool yn, .string yi, .string yf] 23)).heap.size := by have := ba.size; omega
    replace C4 := C4.keep ba (by omega)
    replace z4 : V7.heap.size + 1 ≤ (V8.alloc (.cells #[.bool yn, .string yi, .string yf] 23)).heap.size := by have := ba.size; omega
    replace HB := Lib.hid (HB.out.trans (ba.mono HB.out.size))
    clear ba
    have C5 : Cells3 (V8.alloc (.cells #[.bool yn, .string yi, .string yf] 23)) V8.heap.size (.bool yn) (.string yi) (.string yf) := (one_box V8 _ _ _ _).2.1
    have z5 : V8.heap.size + 1 ≤ (V8.alloc (.cells #[.bool yn, .string yi, .string yf] 23)).heap.size := by simp
    have o00 := C0.1
    have o10 := C1.1
    have o20 := C2.1
    have o30 := C3.1
    have o40 := C4.1
    have o50 := C5.1
    have o01 := C0.2.1
    have o02 := C0.2.2
    have o11 := C1.2.1
    have o12 := C1.2.2
    have o21 := C2.2.1
    have o22 := C2.2.2
    have o31 := C3.2.1
    have o32 := C3.2.2
    have o41 := C4.2.1
    have o42 := C4.2.2
    have o51 := C5.2.1
    have o52 := C5.2.2
    go_wp2_with fail
    clear o00 o01 o02 o10 o11 o12 o20 o21 o22 o30 o31 o32 o40 o41 o42 o50 o51 o52
    obtain ⟨V8x, hV8x⟩ : ∃ V8x, V8x = V8.alloc (.cells #[.bool yn, .string yi, .string yf] 23) := ⟨_, rfl⟩
    have HX := Lib.hid (show V8.heap.size + 1 = V8x.heap.size by rw [hV8x]; simp)
    rw [← hV8x]
    rw [← hV8x] at HB C0 z0 C1 z1 C2 z2 C3 z3 C4 z4 C5 z5
    clear hV8x
    (with_reducible refine (D8.out _).mono ?_)
    rintro e V9 ⟨rfl, hb⟩
    replace C0 := C0.keep hb (by omega)
    replace z0 : w.heap.size + 1 ≤ V9.heap.size := by have := hb.size; omega
    replace C1 := C1.keep hb (by omega)
    replace z1 : V2.heap.size + 1 ≤ V9.heap.size := by have := hb.size; omega
    replace C2 := C2.keep hb (by omega)
    replace z2 : V3.heap.size + 1 ≤ V9.heap.size := by have := hb.size; omega
    replace C3 := C3.keep hb (by omega)
    replace z3 : V5.heap.size + 1 ≤ V9.heap.size := by have := hb.size; omega
    replace C4 := C4.keep hb (by omega)
    replace z4 : V7.heap.size + 1 ≤ V9.heap.size := by have := hb.size; omega
    replace C5 := C5.keep hb (by omega)
    replace z5 : V8.heap.size + 1 ≤ V9.heap.size := by have := hb.size; omega
    replace HB := Lib.hid (HB.out.trans (hb.mono HB.out.size))
    clear hb
    have o00 := C0.1
    have o10 := C1.1
    have o20 := C2.1
    have o30 := C3.1
    have o40 := C4.1
    have o50 := C5.1
    have o01 := C0.2.1
    have o02 := C0.2.2
    have o11 := C1.2.1
    have o12 := C1.2.2
    have o21 := C2.2.1
    have o22 := C2.2.2
    have o31 := C3.2.1
    have o32 := C3.2.2
    have o41 := C4.2.1
    have o42 := C4.2.2
    have o51 := C5.2.1
    have o52 := C5.2.2
    go_wp2
    go_ret
    exact ⟨rfl, HB.out⟩
  · have q8 : decide (k < (df.size : Int)) = false := decide_eq_false hc
    have q9 : ((pf.size : Int) != k) = false := by rw [he]; exact bne_self_eq_false _
    clear he
    go_enter Try.func12, Try.ntmps12
    go_wp2_with fail
    obtain ⟨W0, hW0⟩ : ∃ W0, W0 = (w.alloc (.cells #[.bool dn, .string di, .string df] 23)) := ⟨_, rfl⟩
    obtain ⟨hB, hz, C0, _⟩ : Below w.heap.size w W0 ∧ w.heap.size + 1 ≤ W0.heap.size ∧ Cells3 W0 w.heap.size (.bool dn) (.string di) (.string df) ∧ ∀ i, W0.frozen? ⟨w.heap.size, i, none⟩ = false := by rw [hW0]; exact ⟨(Below.refl _ w).alloc (Nat.le_refl _) _, one_box w _ _ _ _⟩
    have z0 : w.heap.size + 1 ≤ W0.heap.size := by omega
    rw [← hW0]
    have HB := Lib.hid hB
    clear hW0 hB hz
    (with_reducible refine (DW.out _).mono ?_)
    rintro e V1 ⟨rfl, hb⟩
    replace C0 := C0.keep hb (by omega)
    replace z0 : w.heap.size + 1 ≤ V1.heap.size := by have := hb.size; omega
    replace HB := Lib.hid (HB.out.trans (hb.mono HB.out.size))
    clear hb
    have o00 := C0.1
    have o01 := C0.2.1
    have o02 := C0.2.2
    go_wp2_with fail
    clear o00 o01 o02
    (with_reducible refine (D1.out _).mono ?_)
    rintro e V2 ⟨rfl, hb⟩
    replace C0 := C0.keep hb (by omega)
    replace z0 : w.heap.size + 1 ≤ V2.heap.size := by have := hb.size; omega
    replace HB := Lib.hid (HB.out.trans (hb.mono HB.out.size))
    clear hb
    have ba : Below V2.heap.size V2 (V2.alloc (.cells #[.bool tn, .string ti, .string tf] 23)) := (Below.refl _ _).alloc (Nat.le_refl _) _
    replace C0 := C0.keep ba (by omega)
    replace z0 : w.heap.size + 1 ≤ (V2.alloc (.cells #[.bool tn, .string ti, .string tf] 23)).heap.size := by have := ba.size; omega
    replace HB := Lib.hid (HB.out.trans (ba.mono HB.out.size))
    clear ba
    have C1 : Cells3 (V2.alloc (.cells #[.bool tn, .string ti, .string tf] 23)) V2.heap.size (.bool tn) (.string ti) (.string tf) := (one_box V2 _ _ _ _).2.1
    have z1 : V2.heap.size + 1 ≤ (V2.alloc (.cells #[.bool tn, .string ti, .string tf] 23)).heap.size := by simp
    have o00 := C0.1
    have o10 := C1.1
    have o01 := C0.2.1
    have o02 := C0.2.2
    have o11 := C1.2.1
    have o12 := C1.2.2
    go_wp2_with fail
    clear o00 o01 o02 o10 o11 o12
    obtain ⟨V2x, hV2x⟩ : ∃ V2x, V2x = V2.alloc (.cells #[.bool tn, .string ti, .string tf] 23) := ⟨_, rfl⟩
    have HX := Lib.hid (show V2.heap.size + 1 = V2x.heap.size by rw [hV2x]; simp)
    rw [← hV2x]
    rw [← hV2x] at HB C0 z0 C1 z1
    clear hV2x
    (with_reducible refine (D2.out _).mono ?_)
    rintro e V3 ⟨rfl, hb⟩
    replace C0 := C0.keep hb (by omega)
    replace z0 : w.heap.size + 1 ≤ V3.heap.size := by have := hb.size; omega
    replace C1 := C1.keep hb (by omega)
    replace z1 : V2.heap.size + 1 ≤ V3.heap.size := by have := hb.size; omega
    replace HB := Lib.hid (HB.out.trans (hb.mono HB.out.size))
    clear hb
    have ba : Below V3.heap.size V3 (V3.alloc (.cells #[.bool tn, .string ti, .string tf] 23)) := (Below.refl _ _).alloc (Nat.le_refl _) _
    replace C0 := C0.keep ba (by omega)
    replace z0 : w.heap.size + 1 ≤ (V3.alloc (.cells #[.bool tn, .string ti, .string tf] 23)).heap.size := by have := ba.size; omega
    replace C1 := C1.keep ba (by omega)
    replace z1 : V2.heap.size + 1 ≤ (V3.alloc (.cells #[.bool tn, .string ti, .string tf] 23)).heap.size := by have := ba.size; omega
    replace HB := Lib.hid (HB.out.trans (ba.mono HB.out.size))
    clear ba
    have C2 : Cells3 (V3.alloc (.cells #[.bool tn, .string ti, .string tf] 23)) V3.heap.size (.bool tn) (.string ti) (.string tf) := (one_box V3 _ _ _ _).2.1
    have z2 : V3.heap.size + 1 ≤ (V3.alloc (.cells #[.bool tn, .string ti, .string tf] 23)).heap.size := by simp
    have o00 := C0.1
    have o10 := C1.1
    have o20 := C2.1
    have o01 := C0.2.1
    have o02 := C0.2.2
    have o11 := C1.2.1
    have o12 := C1.2.2
    have o21 := C2.2.1
    have o22 := C2.2.2
    go_wp2_with fail
    clear o00 o01 o02 o10 o11 o12 o20 o21 o22
    obtain ⟨V3x, hV3x⟩ : ∃ V3x, V3x = V3.alloc (.cells #[.bool tn, .string ti, .string tf] 23) := ⟨_, rfl⟩
    have HX := Lib.hid (show V3.heap.size + 1 = V3x.heap.size by rw [hV3x]; simp)
    rw [← hV3x]
    rw [← hV3x] at HB C0 z0 C1 z1 C2 z2
    clear hV3x
    (with_reducible refine (D3.out _).mono ?_)
    rintro e V4 ⟨rfl, hb⟩
    replace C0 := C0.keep hb (by omega)
    replace z0 : w.heap.size + 1 ≤ V4.heap.size := by have := hb.size; omega
    replace C1 := C1.keep hb (by omega)
    replace z1 : V2.heap.size + 1 ≤ V4.heap.size := by have := hb.size; omega
    replace C2 := C2.keep hb (by omega)
    replace z2 : V3.heap.size + 1 ≤ V4.heap.size := by have := hb.size; omega
    replace HB := Lib.hid (HB.out.trans (hb.mono HB.out.size))
    clear hb
    have o00 := C0.1
    have o10 := C1.1
    have o20 := C2.1
    have o01 := C0.2.1
    have o02 := C0.2.2
    have o11 := C1.2.1
    have o12 := C1.2.2
    have o21 := C2.2.1
    have o22 := C2.2.2
    go_wp2_with fail
    clear o00 o01 o02 o10 o11 o12 o20 o21 o22
    (with_reducible refine (D4.out _).mono ?_)
    rintro e V5 ⟨rfl, hb⟩
    replace C0 := C0.keep hb (by omega)
    replace z0 : w.heap.size + 1 ≤ V5.heap.size := by have := hb.size; omega
    replace C1 := C1.keep hb (by omega)
    replace z1 : V2.heap.size + 1 ≤ V5.heap.size := by have := hb.size; omega
    replace C2 := C2.keep hb (by omega)
    replace z2 : V3.heap.size + 1 ≤ V5.heap.size := by have := hb.size; omega
    replace HB := Lib.hid (HB.out.trans (hb.mono HB.out.size))
    clear hb
    have ba : Below V5.heap.size V5 (V5.alloc (.cells #[.bool pn, .string pi, .string pf] 23)) := (Below.refl _ _).alloc (Nat.le_refl _) _
    replace C0 := C0.keep ba (by omega)
    replace z0 : w.heap.size + 1 ≤ (V5.alloc (.cells #[.bool pn, .string pi, .string pf] 23)).heap.size := by have := ba.size; omega
    replace C1 := C1.keep ba (by omega)
    replace z1 : V2.heap.size + 1 ≤ (V5.alloc (.cells #[.bool pn, .string pi, .string pf] 23)).heap.size := by have := ba.size; omega
    replace C2 := C2.keep ba (by omega)
    replace z2 : V3.heap.size + 1 ≤ (V5.alloc (.cells #[.bool pn, .string pi, .string pf] 23)).heap.size := by have := ba.size; omega
    replace HB := Lib.hid (HB.out.trans (ba.mono HB.out.size))
    clear ba
    have C3 : Cells3 (V5.alloc (.cells #[.bool pn, .string pi, .string pf] 23)) V5.heap.size (.bool pn) (.string pi) (.string pf) := (one_box V5 _ _ _ _).2.1
    have z3 : V5.heap.size + 1 ≤ (V5.alloc (.cells #[.bool pn, .string pi, .string pf] 23)).heap.size := by simp
    have o00 := C0.1
    have o10 := C1.1
    have o20 := C2.1
    have o30 := C3.1
    have o01 := C0.2.1
    have o02 := C0.2.2
    have o11 := C1.2.1
    have o12 := C1.2.2
    have o21 := C2.2.1
    have o22 := C2.2.2
    have o31 := C3.2.1
    have o32 := C3.2.2
    go_wp2_with fail
    clear o00 o01 o02 o10 o11 o12 o20 o21 o22 o30 o31 o32
    obtain ⟨V5x, hV5x⟩ : ∃ V5x, V5x = V5.alloc (.cells #[.bool pn, .string pi, .string pf] 23) := ⟨_, rfl⟩
    have HX := Lib.hid (show V5.heap.size + 1 = V5x.heap.size by rw [hV5x]; simp)
    rw [← hV5x]
    rw [← hV5x] at HB C0 z0 C1 z1 C2 z2 C3 z3
    clear hV5x
    (with_reducible refine (D5.out _).mono ?_)
    rintro e V6 ⟨rfl, hb⟩
    replace C0 := C0.keep hb (by omega)
    replace z0 : w.heap.size + 1 ≤ V6.heap.size := by have := hb.size; omega
    replace C1 := C1.keep hb (by omega)
    replace z1 : V2.heap.size + 1 ≤ V6.heap.size := by have := hb.size; omega
    replace C2 := C2.keep hb (by omega)
    replace z2 : V3.heap.size + 1 ≤ V6.heap.size := by have := hb.size; omega
    replace C3 := C3.keep hb (by omega)
    replace z3 : V5.heap.size + 1 ≤ V6.heap.size := by have := hb.size; omega
    replace HB := Lib.hid (HB.out.trans (hb.mono HB.out.size))
    clear hb
    have o00 := C0.1
    have o10 := C1.1
    have o20 := C2.1
    have o30 := C3.1
    have o01 := C0.2.1
    have o02 := C0.2.2
    have o11 := C1.2.1
    have o12 := C1.2.2
    have o21 := C2.2.1
    have o22 := C2.2.2
    have o31 := C3.2.1
    have o32 := C3.2.2
    go_wp2_with fail
    clear o00 o01 o02 o10 o11 o12 o20 o21 o22 o30 o31 o32
    (with_reducible refine (D6.out _).mono ?_)
    rintro e V7 ⟨rfl, hb⟩
    replace C0 := C0.keep hb (by omega)
    replace z0 : w.heap.size + 1 ≤ V7.heap.size := by have := hb.size; omega
    replace C1 := C1.keep hb (by omega)
    replace z1 : V2.heap.size + 1 ≤ V7.heap.size := by have := hb.size; omega
    replace C2 := C2.keep hb (by omega)
    replace z2 : V3.heap.size + 1 ≤ V7.heap.size := by have := hb.size; omega
    replace C3 := C3.keep hb (by omega)
    replace z3 : V5.heap.size + 1 ≤ V7.heap.size := by have := hb.size; omega
    replace HB := Lib.hid (HB.out.trans (hb.mono HB.out.size))
    clear hb
    have ba : Below V7.heap.size V7 (V7.alloc (.cells #[.bool xn, .string xi, .string xf] 23)) := (Below.refl _ _).alloc (Nat.le_refl _) _
    replace C0 := C0.keep ba (by omega)
    replace z0 : w.heap.size + 1 ≤ (V7.alloc (.cells #[.bool xn, .string xi, .string xf] 23)).heap.size := by have := ba.size; omega
    replace C1 := C1.keep ba (by omega)
    replace z1 : V2.heap.size + 1 ≤ (V7.alloc (.cells #[.bool xn, .string xi, .string xf] 23)).heap.size := by have := ba.size; omega
    replace C2 := C2.keep ba (by omega)
    replace z2 : V3.heap.size + 1 ≤ (V7.alloc (.cells #[.bool xn, .string xi, .string xf] 23)).heap.size := by have := ba.size; omega
    replace C3 := C3.keep ba (by omega)
    replace z3 : V5.heap.size + 1 ≤ (V7.alloc (.cells #[.bool xn, .string xi, .string xf] 23)).heap.size := by have := ba.size; omega
    replace HB := Lib.hid (HB.out.trans (ba.mono HB.out.size))
    clear ba
    have C4 : Cells3 (V7.alloc (.cells #[.bool xn, .string xi, .string xf] 23)) V7.heap.size (.bool xn) (.string xi) (.string xf) := (one_box V7 _ _ _ _).2.1
    have z4 : V7.heap.size + 1 ≤ (V7.alloc (.cells #[.bool xn, .string xi, .string xf] 23)).heap.size := by simp
    have o00 := C0.1
    have o10 := C1.1
    have o20 := C2.1
    have o30 := C3.1
    have o40 := C4.1
    have o01 := C0.2.1
    have o02 := C0.2.2
    have o11 := C1.2.1
    have o12 := C1.2.2
    have o21 := C2.2.1
    have o22 := C2.2.2
    have o31 := C3.2.1
    have o32 := C3.2.2
    have o41 := C4.2.1
    have o42 := C4.2.2
    go_wp2_with fail
    clear o00 o01 o02 o10 o11 o12 o20 o21 o22 o30 o31 o32 o40 o41 o42
    obtain ⟨V7x, hV7x⟩ : ∃ V7x, V7x = V7.alloc (.cells #[.bool xn, .string xi, .string xf] 23) := ⟨_, rfl⟩
    have HX := Lib.hid (show V7.heap.size + 1 = V7x.heap.size by rw [hV7x]; simp)
    rw [← hV7x]
    rw [← hV7x] at HB C0 z0 C1 z1 C2 z2 C3 z3 C4 z4
    clear hV7x
    (with_reducible refine (D7.out _).mono ?_)
    rintro e V8 ⟨rfl, hb⟩
    replace C0 := C0.keep hb (by omega)
    replace z0 : w.heap.size + 1 ≤ V8.heap.size := by have := hb.size; omega
    replace C1 := C1.keep hb (by omega)
    replace z1 : V2.heap.size + 1 ≤ V8.heap.size := by have := hb.size; omega
    replace C2 := C2.keep hb (by omega)
    replace z2 : V3.heap.size + 1 ≤ V8.heap.size := by have := hb.size; omega
    replace C3 := C3.keep hb (by omega)
    replace z3 : V5.heap.size + 1 ≤ V8.heap.size := by have := hb.size; omega
    replace C4 := C4.keep hb (by omega)
    replace z4 : V7.heap.size + 1 ≤ V8.heap.size := by have := hb.size; omega
    replace HB := Lib.hid (HB.out.trans (hb.mono HB.out.size))
    clear hb
    have ba : Below V8.heap.size V8 (V8.alloc (.cells #[.bool yn, .string yi, .string yf] 23)) := (Below.refl _ _).alloc (Nat.le_refl _) _
    replace C0 := C0.keep ba (by omega)
    replace z0 : w.heap.size + 1 ≤ (V8.alloc (.cells #[.bool yn, .string yi, .string yf] 23)).heap.size := by have := ba.size; omega
    replace C1 := C1.keep ba (by omega)
    replace z1 : V2.heap.size + 1 ≤ (V8.alloc (.cells #[.bool yn, .string yi, .string yf] 23)).heap.size := by have := ba.size; omega
    replace C2 := C2.keep ba (by omega)
    replace z2 : V3.heap.size + 1 ≤ (V8.alloc (.cells #[.bool yn, .string yi, .string yf] 23)).heap.size := by have := ba.size; omega
    replace C3 := C3.keep ba (by omega)
    replace z3 : V5.heap.size + 1 ≤ (V8.alloc (.cells #[.bool yn, .string yi, .string yf] 23)).heap.size := by have := ba.size; omega
    replace C4 := C4.keep ba (by omega)
    replace z4 : V7.heap.size + 1 ≤ (V8.alloc (.cells #[.bool yn, .string yi, .string yf] 23)).heap.size := by have := ba.size; omega
    replace HB := Lib.hid (HB.out.trans (ba.mono HB.out.size))
    clear ba
    have C5 : Cells3 (V8.alloc (.cells #[.bool yn, .string yi, .string yf] 23)) V8.heap.size (.bool yn) (.string yi) (.string yf) := (one_box V8 _ _ _ _).2.1
    have z5 : V8.heap.size + 1 ≤ (V8.alloc (.cells #[.bool yn, .string yi, .string yf] 23)).heap.size := by simp
    have o00 := C0.1
    have o10 := C1.1
    have o20 := C2.1
    have o30 := C3.1
    have o40 := C4.1
    have o50 := C5.1
    have o01 := C0.2.1
    have o02 := C0.2.2
    have o11 := C1.2.1
    have o12 := C1.2.2
    have o21 := C2.2.1
    have o22 := C2.2.2
    have o31 := C3.2.1
    have o32 := C3.2.2
    have o41 := C4.2.1
    have o42 := C4.2.2
    have o51 := C5.2.1
    have o52 := C5.2.2
    go_wp2_with fail
    clear o00 o01 o02 o10 o11 o12 o20 o21 o22 o30 o31 o32 o40 o41 o42 o50 o51 o52
    obtain ⟨V8x, hV8x⟩ : ∃ V8x, V8x = V8.alloc (.cells #[.bool yn, .string yi, .string yf] 23) := ⟨_, rfl⟩
    have HX := Lib.hid (show V8.heap.size + 1 = V8x.heap.size by rw [hV8x]; simp)
    rw [← hV8x]
    rw [← hV8x] at HB C0 z0 C1 z1 C2 z2 C3 z3 C4 z4 C5 z5
    clear hV8x
    (with_reducible refine (D8.out _).mono ?_)
    rintro e V9 ⟨rfl, hb⟩
    replace C0 := C0.keep hb (by omega)
    replace z0 : w.heap.size + 1 ≤ V9.heap.size := by have := hb.size; omega
    replace C1 := C1.keep hb (by omega)
    replace z1 : V2.heap.size + 1 ≤ V9.heap.size := by have := hb.size; omega
    replace C2 := C2.keep hb (by omega)
    replace z2 : V3.heap.size + 1 ≤ V9.heap.size := by have := hb.size; omega
    replace C3 := C3.keep hb (by omega)
    replace z3 : V5.heap.size + 1 ≤ V9.heap.size := by have := hb.size; omega
    replace C4 := C4.keep hb (by omega)
    replace z4 : V7.heap.size + 1 ≤ V9.heap.size := by have := hb.size; omega
    replace C5 := C5.keep hb (by omega)
    replace z5 : V8.heap.size + 1 ≤ V9.heap.size := by have := hb.size; omega
    replace HB := Lib.hid (HB.out.trans (hb.mono HB.out.size))
    clear hb
    have o00 := C0.1
    have o10 := C1.1
    have o20 := C2.1
    have o30 := C3.1
    have o40 := C4.1
    have o50 := C5.1
    have o01 := C0.2.1
    have o02 := C0.2.2
    have o11 := C1.2.1
    have o12 := C1.2.2
    have o21 := C2.2.1
    have o22 := C2.2.2
    have o31 := C3.2.1
    have o32 := C3.2.2
    have o41 := C4.2.1
    have o42 := C4.2.2
    have o51 := C5.2.1
    have o52 := C5.2.2
    go_wp2
    go_ret
    exact ⟨rfl, HB.out⟩

theorem oS {d : Dc} (o : Option Dc) (h : o = some d) : Value.tuple #[.agg #[.bool (oN o), .string (oI o), .string (oF o)], .int .i64 (oE o)] = .tuple #[.agg #[.bool d.neg, .string (dStr d.i), .string (dStr d.f)], .int .i64 0] := by rw [h]; rfl
end Go.Proofs.Ytohppejblbeemaa
