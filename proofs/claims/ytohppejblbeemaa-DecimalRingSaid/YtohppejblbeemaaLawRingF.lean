/- DecimalRing: sums and products, case by case. -/
import Derived.Test.YtohppejblbeemaaDFine
import Derived.Deep.DeepCutAuto
namespace Go.Proofs.Ytohppejblbeemaa
open Go.RowKit

set_option maxHeartbeats 8000000 in
set_option maxRecDepth 100000 in
theorem ring_oeeaa (an bn cn dn gn pn rn sn hn : Bool) (ai af bi bf ci cf di df gi gf pi pf ri rf si sf hi hf : ByteArray) (e1 e3 f1 f3 f4 e8 : Int) (w : World) (HF : ∀ (g : Nat) (wx : World), g = wx.heap.size → Calls Try.prog 40 #[.slice (some ⟨g, 0, none⟩) 3 3] (wx.alloc (.cells #[.bool an, .string ai, .string af, .bool bn, .string bi, .string bf, .bool cn, .string ci, .string cf] 23)) fun e w' => e = .returned (.bool true) ∧ Below wx.heap.size wx w') (H1 : (∀ wx : World, Calls Try.prog 23 #[(.agg #[.bool an, .string ai, .string af]), (.agg #[.bool bn, .string bi, .string bf])] wx fun e w' => e = .returned (.tuple #[(.agg #[.bool dn, .string di, .string df]), .int .i64 e1]) ∧ Below wx.heap.size wx w')) (H2 : (∀ wx : World, Calls Try.prog 23 #[(.agg #[.bool bn, .string bi, .string bf]), (.agg #[.bool an, .string ai, .string af])] wx fun e w' => e = .returned (.tuple #[(.agg #[.bool dn, .string di, .string df]), .int .i64 e1]) ∧ Below wx.heap.size wx w')) (H3 : (∀ wx : World, Calls Try.prog 23 #[(.agg #[.bool bn, .string bi, .string bf]), (.agg #[.bool cn, .string ci, .string cf])] wx fun e w' => e = .returned (.tuple #[(.agg #[.bool gn, .string gi, .string gf]), .int .i64 e3]) ∧ Below wx.heap.size wx w')) (HS : e1 = 0 → e3 = 0 → ∃ (xn : Bool) (xi xf : ByteArray) (k : Int), (∀ wx : World, Calls Try.prog 23 #[(.agg #[.bool dn, .string di, .string df]), (.agg #[.bool cn, .string ci, .string cf])] wx fun e w' => e = .returned (.tuple #[(.agg #[.bool xn, .string xi, .string xf]), .int .i64 k]) ∧ Below wx.heap.size wx w') ∧ (∀ wx : World, Calls Try.prog 23 #[(.agg #[.bool an, .string ai, .string af]), (.agg #[.bool gn, .string gi, .string gf])] wx fun e w' => e = .returned (.tuple #[(.agg #[.bool xn, .string xi, .string xf]), .int .i64 k]) ∧ Below wx.heap.size wx w')) (H4 : (∀ wx : World, Calls Try.prog 28 #[(.agg #[.bool an, .string ai, .string af]), (.agg #[.bool bn, .string bi, .string bf])] wx fun e w' => e = .returned (.tuple #[(.agg #[.bool pn, .string pi, .string pf]), .int .i64 f1]) ∧ Below wx.heap.size wx w')) (H5 : (∀ wx : World, Calls Try.prog 28 #[(.agg #[.bool bn, .string bi, .string bf]), (.agg #[.bool an, .string ai, .string af])] wx fun e w' => e = .returned (.tuple #[(.agg #[.bool pn, .string pi, .string pf]), .int .i64 f1]) ∧ Below wx.heap.size wx w')) (H6 : (∀ wx : World, Calls Try.prog 28 #[(.agg #[.bool bn, .string bi, .string bf]), (.agg #[.bool cn, .string ci, .string cf])] wx fun e w' => e = .returned (.tuple #[(.agg #[.bool rn, .string ri, .string rf]), .int .i64 f3]) ∧ Below wx.heap.size wx w')) (H7 : (∀ wx : World, Calls Try.prog 28 #[(.agg #[.bool an, .string ai, .string af]), (.agg #[.bool cn, .string ci, .string cf])] wx fun e w' => e = .returned (.tuple #[(.agg #[.bool sn, .string si, .string sf]), .int .i64 f4]) ∧ Below wx.heap.size wx w')) (HM : f1 = 0 → f3 = 0 → ∃ (xn : Bool) (xi xf : ByteArray) (k : Int), (∀ wx : World, Calls Try.prog 28 #[(.agg #[.bool pn, .string pi, .string pf]), (.agg #[.bool cn, .string ci, .string cf])] wx fun e w' => e = .returned (.tuple #[(.agg #[.bool xn, .string xi, .string xf]), .int .i64 k]) ∧ Below wx.heap.size wx w') ∧ (∀ wx : World, Calls Try.prog 28 #[(.agg #[.bool an, .string ai, .string af]), (.agg #[.bool rn, .string ri, .string rf])] wx fun e w' => e = .returned (.tuple #[(.agg #[.bool xn, .string xi, .string xf]), .int .i64 k]) ∧ Below wx.heap.size wx w')) (HD : e3 = 0 → f1 = 0 → f4 = 0 → ∃ (xn : Bool) (xi xf : ByteArray) (k : Int) (yn : Bool) (yi yf : ByteArray) (m : Int), (∀ wx : World, Calls Try.prog 28 #[(.agg #[.bool an, .string ai, .string af]), (.agg #[.bool gn, .string gi, .string gf])] wx fun e w' => e = .returned (.tuple #[(.agg #[.bool xn, .string xi, .string xf]), .int .i64 k]) ∧ Below wx.heap.size wx w') ∧ (∀ wx : World, Calls Try.prog 23 #[(.agg #[.bool pn, .string pi, .string pf]), (.agg #[.bool sn, .string si, .string sf])] wx fun e w' => e = .returned (.tuple #[(.agg #[.bool yn, .string yi, .string yf]), .int .i64 m]) ∧ Below wx.heap.size wx w') ∧ (k = 0 → m = 0 → (∀ wx : World, Calls Try.prog 41 #[(.agg #[.bool xn, .string xi, .string xf]), (.agg #[.bool yn, .string yi, .string yf])] wx fun e w' => e = .returned (.bool true) ∧ Below wx.heap.size wx w'))) (H8 : (∀ wx : World, Calls Try.prog 26 #[(.agg #[.bool an, .string ai, .string af]), (.agg #[.bool bn, .string bi, .string bf])] wx fun e w' => e = .returned (.tuple #[(.agg #[.bool hn, .string hi, .string hf]), .int .i64 e8]) ∧ Below wx.heap.size wx w')) (HZ : e8 = 0 → ∃ (zn : Bool) (zi zf : ByteArray) (m : Int), (∀ wx : World, Calls Try.prog 23 #[(.agg #[.bool hn, .string hi, .string hf]), (.agg #[.bool bn, .string bi, .string bf])] wx fun e w' => e = .returned (.tuple #[(.agg #[.bool zn, .string zi, .string zf]), .int .i64 m]) ∧ Below wx.heap.size wx w') ∧ (m = 0 → (∀ wx : World, Calls Try.prog 41 #[(.agg #[.bool zn, .string zi, .string zf]), (.agg #[.bool an, .string ai, .string af])] wx fun e w' => e = .returned (.bool true) ∧ Below wx.heap.size wx w'))) (ge1 : (e1 == 0) = true) (ge3 : (e3 == 0) = false) (gf1 : (f1 == 0) = false) :
    Calls Try.prog 10 #[(.agg #[.bool an, .string ai, .string af]), (.agg #[.bool bn, .string bi, .string bf]), (.agg #[.bool cn, .string ci, .string cf])] w fun e w' => e = .returned (.bool true) ∧ Below w.heap.size w w' := by
  have DW := Lib.hid awake_any
  have DF := Lib.hid HF
  have D1 := Lib.hid H1
  have D2 := Lib.hid H2
  have D3 := Lib.hid H3
  have DS := Lib.hid HS
  have D4 := Lib.hid H4
  have D5 := Lib.hid H5
  have D6 := Lib.hid H6
  have D7 := Lib.hid H7
  have DM := Lib.hid HM
  have DD := Lib.hid HD
  have D8 := Lib.hid H8
  have DZ := Lib.hid HZ
  clear HF H1 H2 H3 HS H4 H5 H6 H7 HM HD H8 HZ
  have qdn : (dn != dn) = false := bne_self_eq_false _
  have qdm : (dn == dn) = true := beq_self_eq_true _
  have qdi : (di.toList == di.toList) = true := beq_self_eq_true _
  have qdf : (df.toList == df.toList) = true := beq_self_eq_true _
  have qpn : (pn != pn) = false := bne_self_eq_false _
  have qpm : (pn == pn) = true := beq_self_eq_true _
  have qpi : (pi.toList == pi.toList) = true := beq_self_eq_true _
  have qpf : (pf.toList == pf.toList) = true := beq_self_eq_true _
  have qe1 : (e1 != e1) = false := bne_self_eq_false _
  have qf1 : (f1 != f1) = false := bne_self_eq_false _
  go_enter Try.func10, Try.ntmps10
  go_wp2_with fail
  obtain ⟨W0, hW0⟩ : ∃ W0, W0 = (((w.alloc (.cells #[.bool an, .string ai, .string af] 23)).alloc (.cells #[.bool bn, .string bi, .string bf] 23)).alloc (.cells #[.bool cn, .string ci, .string cf] 23)) := ⟨_, rfl⟩
  obtain ⟨hB, hz, C0, C1, C2, _⟩ : Below w.heap.size w W0 ∧ w.heap.size + 3 ≤ W0.heap.size ∧ Cells3 W0 w.heap.size (.bool an) (.string ai) (.string af) ∧ Cells3 W0 (w.heap.size + 1) (.bool bn) (.string bi) (.string bf) ∧ Cells3 W0 (w.heap.size + 2) (.bool cn) (.string ci) (.string cf) ∧ ∀ i, W0.frozen? ⟨(w.heap.size + 2), i, none⟩ = false := by rw [hW0]; exact ⟨below_three w _ _ _, three_boxes w _ _ _ _ _ _ _ _ _ _⟩
  have z0 : w.heap.size + 1 ≤ W0.heap.size := by omega
  have z1 : (w.heap.size + 1) + 1 ≤ W0.heap.size := by omega
  have z2 : (w.heap.size + 2) + 1 ≤ W0.heap.size := by omega
  rw [← hW0]
  have HB := Lib.hid hB
  clear hW0 hB hz
  (with_reducible refine (DW.out _).mono ?_)
  rintro e V1 ⟨rfl, hb⟩
  replace C0 := C0.keep hb (by omega)
  replace z0 : w.heap.size + 1 ≤ V1.heap.size := by have := hb.size; omega
  replace C1 := C1.keep hb (by omega)
  replace z1 : (w.heap.size + 1) + 1 ≤ V1.heap.size := by have := hb.size; omega
  replace C2 := C2.keep hb (by omega)
  replace z2 : (w.heap.size + 2) + 1 ≤ V1.heap.size := by have := hb.size; omega
  replace HB := Lib.hid (HB.out.trans (hb.mono HB.out.size))
  clear hb
  have o00 := C0.1
  have o10 := C1.1
  have o20 := C2.1
  have o01 := C0.2.1
  have o02 := C0.2.2
  have o11 := C1.2.1
  have o12 := C1.2.2
  have o21 := C2.2.1
  have o22 := C2.2.2
  go_wp2_with fail
  clear o00 o01 o02 o10 o11 o12 o20 o21 o22
  (with_reducible refine (DF.out _ _ ?_).mono ?_)
  · rfl
  rintro e V2 ⟨rfl, hb⟩
  replace C0 := C0.keep hb (by omega)
  replace z0 : w.heap.size + 1 ≤ V2.heap.size := by have := hb.size; omega
  replace C1 := C1.keep hb (by omega)
  replace z1 : (w.heap.size + 1) + 1 ≤ V2.heap.size := by have := hb.size; omega
  replace C2 := C2.keep hb (by omega)
  replace z2 : (w.heap.size + 2) + 1 ≤ V2.heap.size := by have := hb.size; omega
  replace HB := Lib.hid (HB.out.trans (hb.mono HB.out.size))
  clear hb
  have o00 := C0.1
  have o10 := C1.1
  have o20 := C2.1
  have o01 := C0.2.1
  have o02 := C0.2.2
  have o11 := C1.2.1
  have o12 := C1.2.2
  have o21 := C2.2.1
  have o22 := C2.2.2
  go_wp2_with fail
  clear o00 o01 o02 o10 o11 o12 o20 o21 o22
  (with_reducible refine (D1.out _).mono ?_)
  rintro e V3 ⟨rfl, hb⟩
  replace C0 := C0.keep hb (by omega)
  replace z0 : w.heap.size + 1 ≤ V3.heap.size := by have := hb.size; omega
  replace C1 := C1.keep hb (by omega)
  replace z1 : (w.heap.size + 1) + 1 ≤ V3.heap.size := by have := hb.size; omega
  replace C2 := C2.keep hb (by omega)
  replace z2 : (w.heap.size + 2) + 1 ≤ V3.heap.size := by have := hb.size; omega
  replace HB := Lib.hid (HB.out.trans (hb.mono HB.out.size))
  clear hb
  have ba : Below V3.heap.size V3 (V3.alloc (.cells #[.bool dn, .string di, .string df] 23)) := (Below.refl _ _).alloc (Nat.le_refl _) _
  replace C0 := C0.keep ba (by omega)
  replace z0 : w.heap.size + 1 ≤ (V3.alloc (.cells #[.bool dn, .string di, .string df] 23)).heap.size := by have := ba.size; omega
  replace C1 := C1.keep ba (by omega)
  replace z1 : (w.heap.size + 1) + 1 ≤ (V3.alloc (.cells #[.bool dn, .string di, .string df] 23)).heap.size := by have := ba.size; omega
  replace C2 := C2.keep ba (by omega)
  replace z2 : (w.heap.size + 2) + 1 ≤ (V3.alloc (.cells #[.bool dn, .string di, .string df] 23)).heap.size := by have := ba.size; omega
  replace HB := Lib.hid (HB.out.trans (ba.mono HB.out.size))
  clear ba
  have C3 : Cells3 (V3.alloc (.cells #[.bool dn, .string di, .string df] 23)) V3.heap.size (.bool dn) (.string di) (.string df) := (one_box V3 _ _ _ _).2.1
  have z3 : V3.heap.size + 1 ≤ (V3.alloc (.cells #[.bool dn, .string di, .string df] 23)).heap.size := by simp
  have o00 := C0.1
  have o10 := C1.1
  have o20 := C2.1
  have o30 := C3.1
  have o01 := C0.2.1
  have o02 := C0.2.2
  have o11 := C1.2.1
  have o12 := C1.2.2
  have o21 := C2.2.1
  have o22 := C2.2.2
  have o31 := C3.2.1
  have o32 := C3.2.2
  go_wp2_with fail
  clear o00 o01 o02 o10 o11 o12 o20 o21 o22 o30 o31 o32
  obtain ⟨V3x, hV3x⟩ : ∃ V3x, V3x = V3.alloc (.cells #[.bool dn, .string di, .string df] 23) := ⟨_, rfl⟩
  have HX := Lib.hid (show V3.heap.size + 1 = V3x.heap.size by rw [hV3x]; simp)
  rw [← hV3x]
  rw [← hV3x] at HB C0 z0 C1 z1 C2 z2 C3 z3
  clear hV3x
  (with_reducible refine (D2.out _).mono ?_)
  rintro e V4 ⟨rfl, hb⟩
  replace C0 := C0.keep hb (by omega)
  replace z0 : w.heap.size + 1 ≤ V4.heap.size := by have := hb.size; omega
  replace C1 := C1.keep hb (by omega)
  replace z1 : (w.heap.size + 1) + 1 ≤ V4.heap.size := by have := hb.size; omega
  replace C2 := C2.keep hb (by omega)
  replace z2 : (w.heap.size + 2) + 1 ≤ V4.heap.size := by have := hb.size; omega
  replace C3 := C3.keep hb (by omega)
  replace z3 : V3.heap.size + 1 ≤ V4.heap.size := by have := hb.size; omega
  replace HB := Lib.hid (HB.out.trans (hb.mono HB.out.size))
  clear hb
  have ba : Below V4.heap.size V4 (V4.alloc (.cells #[.bool dn, .string di, .string df] 23)) := (Below.refl _ _).alloc (Nat.le_refl _) _
  replace C0 := C0.keep ba (by omega)
  replace z0 : w.heap.size + 1 ≤ (V4.alloc (.cells #[.bool dn, .string di, .string df] 23)).heap.size := by have := ba.size; omega
  replace C1 := C1.keep ba (by omega)
  replace z1 : (w.heap.size + 1) + 1 ≤ (V4.alloc (.cells #[.bool dn, .string di, .string df] 23)).heap.size := by have := ba.size; omega
  replace C2 := C2.keep ba (by omega)
  replace z2 : (w.heap.size + 2) + 1 ≤ (V4.alloc (.cells #[.bool dn, .string di, .string df] 23)).heap.size := by have := ba.size; omega
  replace C3 := C3.keep ba (by omega)
  replace z3 : V3.heap.size + 1 ≤ (V4.alloc (.cells #[.bool dn, .string di, .string df] 23)).heap.size := by have := ba.size; omega
  replace HB := Lib.hid (HB.out.trans (ba.mono HB.out.size))
  clear ba
  have C4 : Cells3 (V4.alloc (.cells #[.bool dn, .string di, .string df] 23)) V4.heap.size (.bool dn) (.string di) (.string df) := (one_box V4 _ _ _ _).2.1
  have z4 : V4.heap.size + 1 ≤ (V4.alloc (.cells #[.bool dn, .string di, .string df] 23)).heap.size := by simp
  have o00 := C0.1
  have o10 := C1.1
  have o20 := C2.1
  have o30 := C3.1
  have o40 := C4.1
  have o01 := C0.2.1
  have o02 := C0.2.2
  have o11 := C1.2.1
  have o12 := C1.2.2
  have o21 := C2.2.1
  have o22 := C2.2.2
  have o31 := C3.2.1
  have o32 := C3.2.2
  have o41 := C4.2.1
  have o42 := C4.2.2
  go_wp2_with fail
  clear o00 o01 o02 o10 o11 o12 o20 o21 o22 o30 o31 o32 o40 o41 o42
  obtain ⟨V4x, hV4x⟩ : ∃ V4x, V4x = V4.alloc (.cells #[.bool dn, .string di, .string df] 23) := ⟨_, rfl⟩
  have HX := Lib.hid (show V4.heap.size + 1 = V4x.heap.size by rw [hV4x]; simp)
  rw [← hV4x]
  rw [← hV4x] at HB C0 z0 C1 z1 C2 z2 C3 z3 C4 z4
  clear hV4x
  (with_reducible refine (D3.out _).mono ?_)
  rintro e V5 ⟨rfl, hb⟩
  replace C0 := C0.keep hb (by omega)
  replace z0 : w.heap.size + 1 ≤ V5.heap.size := by have := hb.size; omega
  replace C1 := C1.keep hb (by omega)
  replace z1 : (w.heap.size + 1) + 1 ≤ V5.heap.size := by have := hb.size; omega
  replace C2 := C2.keep hb (by omega)
  replace z2 : (w.heap.size + 2) + 1 ≤ V5.heap.size := by have := hb.size; omega
  replace C3 := C3.keep hb (by omega)
  replace z3 : V3.heap.size + 1 ≤ V5.heap.size := by have := hb.size; omega
  replace C4 := C4.keep hb (by omega)
  replace z4 : V4.heap.size + 1 ≤ V5.heap.size := by have := hb.size; omega
  replace HB := Lib.hid (HB.out.trans (hb.mono HB.out.size))
  clear hb
  have ba : Below V5.heap.size V5 (V5.alloc (.cells #[.bool gn, .string gi, .string gf] 23)) := (Below.refl _ _).alloc (Nat.le_refl _) _
  replace C0 := C0.keep ba (by omega)
  replace z0 : w.heap.size + 1 ≤ (V5.alloc (.cells #[.bool gn, .string gi, .string gf] 23)).heap.size := by have := ba.size; omega
  replace C1 := C1.keep ba (by omega)
  replace z1 : (w.heap.size + 1) + 1 ≤ (V5.alloc (.cells #[.bool gn, .string gi, .string gf] 23)).heap.size := by have := ba.size; omega
  replace C2 := C2.keep ba (by omega)
  replace z2 : (w.heap.size + 2) + 1 ≤ (V5.alloc (.cells #[.bool gn, .string gi, .string gf] 23)).heap.size := by have := ba.size; omega
  replace C3 := C3.keep ba (by omega)
  replace z3 : V3.heap.size + 1 ≤ (V5.alloc (.cells #[.bool gn, .string gi, .string gf] 23)).heap.size := by have := ba.size; omega
  replace C4 := C4.keep ba (by omega)
  replace z4 : V4.heap.size + 1 ≤ (V5.alloc (.cells #[.bool gn, .string gi, .string gf] 23)).heap.size := by have := ba.size; omega
  replace HB := Lib.hid (HB.out.trans (ba.mono HB.out.size))
  clear ba
  have C5 : Cells3 (V5.alloc (.cells #[.bool gn, .string gi, .string gf] 23)) V5.heap.size (.bool gn) (.string gi) (.string gf) := (one_box V5 _ _ _ _).2.1
  have z5 : V5.heap.size + 1 ≤ (V5.alloc (.cells #[.bool gn, .string gi, .string gf] 23)).heap.size := by simp
  have o00 := C0.1
  have o10 := C1.1
  have o20 := C2.1
  have o30 := C3.1
  have o40 := C4.1
  have o50 := C5.1
  have o01 := C0.2.1
  have o02 := C0.2.2
  have o11 := C1.2.1
  have o12 := C1.2.2
  have o21 := C2.2.1
  have o22 := C2.2.2
  have o31 := C3.2.1
  have o32 := C3.2.2
  have o41 := C4.2.1
  have o42 := C4.2.2
  have o51 := C5.2.1
  have o52 := C5.2.2
  go_wp2_with fail
  clear o00 o01 o02 o10 o11 o12 o20 o21 o22 o30 o31 o32 o40 o41 o42 o50 o51 o52
  obtain ⟨V5x, hV5x⟩ : ∃ V5x, V5x = V5.alloc (.cells #[.bool gn, .string gi, .string gf] 23) := ⟨_, rfl⟩
  have HX := Lib.hid (show V5.heap.size + 1 = V5x.heap.size by rw [hV5x]; simp)
  rw [← hV5x]
  rw [← hV5x] at HB C0 z0 C1 z1 C2 z2 C3 z3 C4 z4 C5 z5
  clear hV5x
  (with_reducible refine (D4.out _).mono ?_)
  rintro e V6 ⟨rfl, hb⟩
  replace C0 := C0.keep hb (by omega)
  replace z0 : w.heap.size + 1 ≤ V6.heap.size := by have := hb.size; omega
  replace C1 := C1.keep hb (by omega)
  replace z1 : (w.heap.size + 1) + 1 ≤ V6.heap.size := by have := hb.size; omega
  replace C2 := C2.keep hb (by omega)
  replace z2 : (w.heap.size + 2) + 1 ≤ V6.heap.size := by have := hb.size; omega
  replace C3 := C3.keep hb (by omega)
  replace z3 : V3.heap.size + 1 ≤ V6.heap.size := by have := hb.size; omega
  replace C4 := C4.keep hb (by omega)
  replace z4 : V4.heap.size + 1 ≤ V6.heap.size := by have := hb.size; omega
  replace C5 := C5.keep hb (by omega)
  replace z5 : V5.heap.size + 1 ≤ V6.heap.size := by have := hb.size; omega
  replace HB := Lib.hid (HB.out.trans (hb.mono HB.out.size))
  clear hb
  have ba : Below V6.heap.size V6 (V6.alloc (.cells #[.bool pn, .string pi, .string pf] 23)) := (Below.refl _ _).alloc (Nat.le_refl _) _
  replace C0 := C0.keep ba (by omega)
  replace z0 : w.heap.size + 1 ≤ (V6.alloc (.cells #[.bool pn, .string pi, .string pf] 23)).heap.size := by have := ba.size; omega
  replace C1 := C1.keep ba (by omega)
  replace z1 : (w.heap.size + 1) + 1 ≤ (V6.alloc (.cells #[.bool pn, .string pi, .string pf] 23)).heap.size := by have := ba.size; omega
  replace C2 := C2.keep ba (by omega)
  replace z2 : (w.heap.size + 2) + 1 ≤ (V6.alloc (.cells #[.bool pn, .string pi, .string pf] 23)).heap.size := by have := ba.size; omega
  replace C3 := C3.keep ba (by omega)
  replace z3 : V3.heap.size + 1 ≤ (V6.alloc (.cells #[.bool pn, .string pi, .string pf] 23)).heap.size := by have := ba.size; omega
  replace C4 := C4.keep ba (by omega)
  replace z4 : V4.heap.size + 1 ≤ (V6.alloc (.cells #[.bool pn, .string pi, .string pf] 23)).heap.size := by have := ba.size; omega
  replace C5 := C5.keep ba (by omega)
  replace z5 : V5.heap.size + 1 ≤ (V6.alloc (.cells #[.bool pn, .string pi, .string pf] 23)).heap.size := by have := ba.size; omega
  replace HB := Lib.hid (HB.out.trans (ba.mono HB.out.size))
  clear ba
  have C6 : Cells3 (V6.alloc (.cells #[.bool pn, .string pi, .string pf] 23)) V6.heap.size (.bool pn) (.string pi) (.string pf) := (one_box V6 _ _ _ _).2.1
  have z6 : V6.heap.size + 1 ≤ (V6.alloc (.cells #[.bool pn, .string pi, .string pf] 23)).heap.size := by simp
  have o00 := C0.1
  have o10 := C1.1
  have o20 := C2.1
  have o30 := C3.1
  have o40 := C4.1
  have o50 := C5.1
  have o60 := C6.1
  have o01 := C0.2.1
  have o02 := C0.2.2
  have o11 := C1.2.1
  have o12 := C1.2.2
  have o21 := C2.2.1
  have o22 := C2.2.2
  have o31 := C3.2.1
  have o32 := C3.2.2
  have o41 := C4.2.1
  have o42 := C4.2.2
  have o51 := C5.2.1
  have o52 := C5.2.2
  have o61 := C6.2.1
  have o62 := C6.2.2
  clear o30 o31 o32
  clear o40 o41 o42
  go_wp2_with fail
  clear o00 o01 o02 o10 o11 o12 o20 o21 o22 o50 o51 o52 o60 o61 o62
  obtain ⟨V6x, hV6x⟩ : ∃ V6x, V6x = V6.alloc (.cells #[.bool pn, .string pi, .string pf] 23) := ⟨_, rfl⟩
  have HX := Lib.hid (show V6.heap.size + 1 = V6x.heap.size by rw [hV6x]; simp)
  rw [← hV6x]
  rw [← hV6x] at HB C0 z0 C1 z1 C2 z2 C5 z5 C6 z6
  clear hV6x
  (with_reducible refine (D5.out _).mono ?_)
  rintro e V7 ⟨rfl, hb⟩
  replace C0 := C0.keep hb (by omega)
  replace z0 : w.heap.size + 1 ≤ V7.heap.size := by have := hb.size; omega
  replace C1 := C1.keep hb (by omega)
  replace z1 : (w.heap.size + 1) + 1 ≤ V7.heap.size := by have := hb.size; omega
  replace C2 := C2.keep hb (by omega)
  replace z2 : (w.heap.size + 2) + 1 ≤ V7.heap.size := by have := hb.size; omega
  replace C5 := C5.keep hb (by omega)
  replace z5 : V5.heap.size + 1 ≤ V7.heap.size := by have := hb.size; omega
  replace C6 := C6.keep hb (by omega)
  replace z6 : V6.heap.size + 1 ≤ V7.heap.size := by have := hb.size; omega
  replace HB := Lib.hid (HB.out.trans (hb.mono HB.out.size))
  clear hb
  have ba : Below V7.heap.size V7 (V7.alloc (.cells #[.bool pn, .string pi, .string pf] 23)) := (Below.refl _ _).alloc (Nat.le_refl _) _
  replace C0 := C0.keep ba (by omega)
  replace z0 : w.heap.size + 1 ≤ (V7.alloc (.cells #[.bool pn, .string pi, .string pf] 23)).heap.size := by have := ba.size; omega
  replace C1 := C1.keep ba (by omega)
  replace z1 : (w.heap.size + 1) + 1 ≤ (V7.alloc (.cells #[.bool pn, .string pi, .string pf] 23)).heap.size := by have := ba.size; omega
  replace C2 := C2.keep ba (by omega)
  replace z2 : (w.heap.size + 2) + 1 ≤ (V7.alloc (.cells #[.bool pn, .string pi, .string pf] 23)).heap.size := by have := ba.size; omega
  replace C5 := C5.keep ba (by omega)
  replace z5 : V5.heap.size + 1 ≤ (V7.alloc (.cells #[.bool pn, .string pi, .string pf] 23)).heap.size := by have := ba.size; omega
  replace C6 := C6.keep ba (by omega)
  replace z6 : V6.heap.size + 1 ≤ (V7.alloc (.cells #[.bool pn, .string pi, .string pf] 23)).heap.size := by have := ba.size; omega
  replace HB := Lib.hid (HB.out.trans (ba.mono HB.out.size))
  clear ba
  have C7 : Cells3 (V7.alloc (.cells #[.bool pn, .string pi, .string pf] 23)) V7.heap.size (.bool pn) (.string pi) (.string pf) := (one_box V7 _ _ _ _).2.1
  have z7 : V7.heap.size + 1 ≤ (V7.alloc (.cells #[.bool pn, .string pi, .string pf] 23)).heap.size := by simp
  have o00 := C0.1
  have o10 := C1.1
  have o20 := C2.1
  have o50 := C5.1
  have o60 := C6.1
  have o70 := C7.1
  have o01 := C0.2.1
  have o02 := C0.2.2
  have o11 := C1.2.1
  have o12 := C1.2.2
  have o21 := C2.2.1
  have o22 := C2.2.2
  have o51 := C5.2.1
  have o52 := C5.2.2
  have o61 := C6.2.1
  have o62 := C6.2.2
  have o71 := C7.2.1
  have o72 := C7.2.2
  go_wp2_with fail
  clear o00 o01 o02 o10 o11 o12 o20 o21 o22 o50 o51 o52 o60 o61 o62 o70 o71 o72
  obtain ⟨V7x, hV7x⟩ : ∃ V7x, V7x = V7.alloc (.cells #[.bool pn, .string pi, .string pf] 23) := ⟨_, rfl⟩
  have HX := Lib.hid (show V7.heap.size + 1 = V7x.heap.size by rw [hV7x]; simp)
  rw [← hV7x]
  rw [← hV7x] at HB C0 z0 C1 z1 C2 z2 C5 z5 C6 z6 C7 z7
  clear hV7x
  (with_reducible refine (D6.out _).mono ?_)
  rintro e V8 ⟨rfl, hb⟩
  replace C0 := C0.keep hb (by omega)
  replace z0 : w.heap.size + 1 ≤ V8.heap.size := by have := hb.size; omega
  replace C1 := C1.keep hb (by omega)
  replace z1 : (w.heap.size + 1) + 1 ≤ V8.heap.size := by have := hb.size; omega
  replace C2 := C2.keep hb (by omega)
  replace z2 : (w.heap.size + 2) + 1 ≤ V8.heap.size := by have := hb.size; omega
  replace C5 := C5.keep hb (by omega)
  replace z5 : V5.heap.size + 1 ≤ V8.heap.size := by have := hb.size; omega
  replace C6 := C6.keep hb (by omega)
  replace z6 : V6.heap.size + 1 ≤ V8.heap.size := by have := hb.size; omega
  replace C7 := C7.keep hb (by omega)
  replace z7 : V7.heap.size + 1 ≤ V8.heap.size := by have := hb.size; omega
  replace HB := Lib.hid (HB.out.trans (hb.mono HB.out.size))
  clear hb
  have ba : Below V8.heap.size V8 (V8.alloc (.cells #[.bool rn, .string ri, .string rf] 23)) := (Below.refl _ _).alloc (Nat.le_refl _) _
  replace C0 := C0.keep ba (by omega)
  replace z0 : w.heap.size + 1 ≤ (V8.alloc (.cells #[.bool rn, .string ri, .string rf] 23)).heap.size := by have := ba.size; omega
  replace C1 := C1.keep ba (by omega)
  replace z1 : (w.heap.size + 1) + 1 ≤ (V8.alloc (.cells #[.bool rn, .string ri, .string rf] 23)).heap.size := by have := ba.size; omega
  replace C2 := C2.keep ba (by omega)
  replace z2 : (w.heap.size + 2) + 1 ≤ (V8.alloc (.cells #[.bool rn, .string ri, .string rf] 23)).heap.size := by have := ba.size; omega
  replace C5 := C5.keep ba (by omega)
  replace z5 : V5.heap.size + 1 ≤ (V8.alloc (.cells #[.bool rn, .string ri, .string rf] 23)).heap.size := by have := ba.size; omega
  replace C6 := C6.keep ba (by omega)
  replace z6 : V6.heap.size + 1 ≤ (V8.alloc (.cells #[.bool rn, .string ri, .string rf] 23)).heap.size := by have := ba.size; omega
  replace C7 := C7.keep ba (by omega)
  replace z7 : V7.heap.size + 1 ≤ (V8.alloc (.cells #[.bool rn, .string ri, .string rf] 23)).heap.size := by have := ba.size; omega
  replace HB := Lib.hid (HB.out.trans (ba.mono HB.out.size))
  clear ba
  have C8 : Cells3 (V8.alloc (.cells #[.bool rn, .string ri, .string rf] 23)) V8.heap.size (.bool rn) (.string ri) (.string rf) := (one_box V8 _ _ _ _).2.1
  have z8 : V8.heap.size + 1 ≤ (V8.alloc (.cells #[.bool rn, .string ri, .string rf] 23)).heap.size := by simp
  have o00 := C0.1
  have o10 := C1.1
  have o20 := C2.1
  have o50 := C5.1
  have o60 := C6.1
  have o70 := C7.1
  have o80 := C8.1
  have o01 := C0.2.1
  have o02 := C0.2.2
  have o11 := C1.2.1
  have o12 := C1.2.2
  have o21 := C2.2.1
  have o22 := C2.2.2
  have o51 := C5.2.1
  have o52 := C5.2.2
  have o61 := C6.2.1
  have o62 := C6.2.2
  have o71 := C7.2.1
  have o72 := C7.2.2
  have o81 := C8.2.1
  have o82 := C8.2.2
  go_wp2_with fail
  clear o00 o01 o02 o10 o11 o12 o20 o21 o22 o50 o51 o52 o60 o61 o62 o70 o71 o72 o80 o81 o82
  obtain ⟨V8x, hV8x⟩ : ∃ V8x, V8x = V8.alloc (.cells #[.bool rn, .string ri, .string rf] 23) := ⟨_, rfl⟩
  have HX := Lib.hid (show V8.heap.size + 1 = V8x.heap.size by rw [hV8x]; simp)
  rw [← hV8x]
  rw [← hV8x] at HB C0 z0 C1 z1 C2 z2 C5 z5 C6 z6 C7 z7 C8 z8
  clear hV8x
  (with_reducible refine (D7.out _).mono ?_)
  rintro e V9 ⟨rfl, hb⟩
  replace C0 := C0.keep hb (by omega)
  replace z0 : w.heap.size + 1 ≤ V9.heap.size := by have := hb.size; omega
  replace C1 := C1.keep hb (by omega)
  replace z1 : (w.heap.size + 1) + 1 ≤ V9.heap.size := by have := hb.size; omega
  replace C2 := C2.keep hb (by omega)
  replace z2 : (w.heap.size + 2) + 1 ≤ V9.heap.size := by have := hb.size; omega
  replace C5 := C5.keep hb (by omega)
  replace z5 : V5.heap.size + 1 ≤ V9.heap.size := by have := hb.size; omega
  replace C6 := C6.keep hb (by omega)
  replace z6 : V6.heap.size + 1 ≤ V9.heap.size := by have := hb.size; omega
  replace C7 := C7.keep hb (by omega)
  replace z7 : V7.heap.size + 1 ≤ V9.heap.size := by have := hb.size; omega
  replace C8 := C8.keep hb (by omega)
  replace z8 : V8.heap.size + 1 ≤ V9.heap.size := by have := hb.size; omega
  replace HB := Lib.hid (HB.out.trans (hb.mono HB.out.size))
  clear hb
  have ba : Below V9.heap.size V9 (V9.alloc (.cells #[.bool sn, .string si, .string sf] 23)) := (Below.refl _ _).alloc (Nat.le_refl _) _
  replace C0 := C0.keep ba (by omega)
  replace z0 : w.heap.size + 1 ≤ (V9.alloc (.cells #[.bool sn, .string si, .string sf] 23)).heap.size := by have := ba.size; omega
  replace C1 := C1.keep ba (by omega)
  replace z1 : (w.heap.size + 1) + 1 ≤ (V9.alloc (.cells #[.bool sn, .string si, .string sf] 23)).heap.size := by have := ba.size; omega
  replace C2 := C2.keep ba (by omega)
  replace z2 : (w.heap.size + 2) + 1 ≤ (V9.alloc (.cells #[.bool sn, .string si, .string sf] 23)).heap.size := by have := ba.size; omega
  replace C5 := C5.keep ba (by omega)
  replace z5 : V5.heap.size + 1 ≤ (V9.alloc (.cells #[.bool sn, .string si, .string sf] 23)).heap.size := by have := ba.size; omega
  replace C6 := C6.keep ba (by omega)
  replace z6 : V6.heap.size + 1 ≤ (V9.alloc (.cells #[.bool sn, .string si, .string sf] 23)).heap.size := by have := ba.size; omega
  replace C7 := C7.keep ba (by omega)
  replace z7 : V7.heap.size + 1 ≤ (V9.alloc (.cells #[.bool sn, .string si, .string sf] 23)).heap.size := by have := ba.size; omega
  replace C8 := C8.keep ba (by omega)
  replace z8 : V8.heap.size + 1 ≤ (V9.alloc (.cells #[.bool sn, .string si, .string sf] 23)).heap.size := by have := ba.size; omega
  replace HB := Lib.hid (HB.out.trans (ba.mono HB.out.size))
  clear ba
  have C9 : Cells3 (V9.alloc (.cells #[.bool sn, .string si, .string sf] 23)) V9.heap.size (.bool sn) (.string si) (.string sf) := (one_box V9 _ _ _ _).2.1
  have z9 : V9.heap.size + 1 ≤ (V9.alloc (.cells #[.bool sn, .string si, .string sf] 23)).heap.size := by simp
  have o00 := C0.1
  have o10 := C1.1
  have o20 := C2.1
  have o50 := C5.1
  have o60 := C6.1
  have o70 := C7.1
  have o80 := C8.1
  have o90 := C9.1
  have o01 := C0.2.1
  have o02 := C0.2.2
  have o11 := C1.2.1
  have o12 := C1.2.2
  have o21 := C2.2.1
  have o22 := C2.2.2
  have o51 := C5.2.1
  have o52 := C5.2.2
  have o61 := C6.2.1
  have o62 := C6.2.2
  have o71 := C7.2.1
  have o72 := C7.2.2
  have o81 := C8.2.1
  have o82 := C8.2.2
  have o91 := C9.2.1
  have o92 := C9.2.2
  go_wp2_with fail
  clear o00 o01 o02 o10 o11 o12 o20 o21 o22 o50 o51 o52 o60 o61 o62 o70 o71 o72 o80 o81 o82 o90 o91 o92
  obtain ⟨V9x, hV9x⟩ : ∃ V9x, V9x = V9.alloc (.cells #[.bool sn, .string si, .string sf] 23) := ⟨_, rfl⟩
  have HX := Lib.hid (show V9.heap.size + 1 = V9x.heap.size by rw [hV9x]; simp)
  rw [← hV9x]
  rw [← hV9x] at HB C0 z0 C1 z1 C2 z2 C5 z5 C6 z6 C7 z7 C8 z8 C9 z9
  clear hV9x
  (with_reducible refine (D8.out _).mono ?_)
  rintro e V10 ⟨rfl, hb⟩
  replace C0 := C0.keep hb (by omega)
  replace z0 : w.heap.size + 1 ≤ V10.heap.size := by have := hb.size; omega
  replace C1 := C1.keep hb (by omega)
  replace z1 : (w.heap.size + 1) + 1 ≤ V10.heap.size := by have := hb.size; omega
  replace C2 := C2.keep hb (by omega)
  replace z2 : (w.heap.size + 2) + 1 ≤ V10.heap.size := by have := hb.size; omega
  replace C5 := C5.keep hb (by omega)
  replace z5 : V5.heap.size + 1 ≤ V10.heap.size := by have := hb.size; omega
  replace C6 := C6.keep hb (by omega)
  replace z6 : V6.heap.size + 1 ≤ V10.heap.size := by have := hb.size; omega
  replace C7 := C7.keep hb (by omega)
  replace z7 : V7.heap.size + 1 ≤ V10.heap.size := by have := hb.size; omega
  replace C8 := C8.keep hb (by omega)
  replace z8 : V8.heap.size + 1 ≤ V10.heap.size := by have := hb.size; omega
  replace C9 := C9.keep hb (by omega)
  replace z9 : V9.heap.size + 1 ≤ V10.heap.size := by have := hb.size; omega
  replace HB := Lib.hid (HB.out.trans (hb.mono HB.out.size))
  clear hb
  have ba : Below V10.heap.size V10 (V10.alloc (.cells #[.bool hn, .string hi, .string hf] 23)) := (Below.refl _ _).alloc (Nat.le_refl _) _
  replace C0 := C0.keep ba (by omega)
  replace z0 : w.heap.size + 1 ≤ (V10.alloc (.cells #[.bool hn, .string hi, .string hf] 23)).heap.size := by have := ba.size; omega
  replace C1 := C1.keep ba (by omega)
  replace z1 : (w.heap.size + 1) + 1 ≤ (V10.alloc (.cells #[.bool hn, .string hi, .string hf] 23)).heap.size := by have := ba.size; omega
  replace C2 := C2.keep ba (by omega)
  replace z2 : (w.heap.size + 2) + 1 ≤ (V10.alloc (.cells #[.bool hn, .string hi, .string hf] 23)).heap.size := by have := ba.size; omega
  replace C5 := C5.keep ba (by omega)
  replace z5 : V5.heap.size + 1 ≤ (V10.alloc (.cells #[.bool hn, .string hi, .string hf] 23)).heap.size := by have := ba.size; omega
  replace C6 := C6.keep ba (by omega)
  replace z6 : V6.heap.size + 1 ≤ (V10.alloc (.cells #[.bool hn, .string hi, .string hf] 23)).heap.size := by have := ba.size; omega
  replace C7 := C7.keep ba (by omega)
  replace z7 : V7.heap.size + 1 ≤ (V10.alloc (.cells #[.bool hn, .string hi, .string hf] 23)).heap.size := by have := ba.size; omega
  replace C8 := C8.keep ba (by omega)
  replace z8 : V8.heap.size + 1 ≤ (V10.alloc (.cells #[.bool hn, .string hi, .string hf] 23)).heap.size := by have := ba.size; omega
  replace C9 := C9.keep ba (by omega)
  replace z9 : V9.heap.size + 1 ≤ (V10.alloc (.cells #[.bool hn, .string hi, .string hf] 23)).heap.size := by have := ba.size; omega
  replace HB := Lib.hid (HB.out.trans (ba.mono HB.out.size))
  clear ba
  have C10 : Cells3 (V10.alloc (.cells #[.bool hn, .string hi, .string hf] 23)) V10.heap.size (.bool hn) (.string hi) (.string hf) := (one_box V10 _ _ _ _).2.1
  have z10 : V10.heap.size + 1 ≤ (V10.alloc (.cells #[.bool hn, .string hi, .string hf] 23)).heap.size := by simp
  have o00 := C0.1
  have o10 := C1.1
  have o20 := C2.1
  have o50 := C5.1
  have o60 := C6.1
  have o70 := C7.1
  have o80 := C8.1
  have o90 := C9.1
  have o100 := C10.1
  have o01 := C0.2.1
  have o02 := C0.2.2
  have o11 := C1.2.1
  have o12 := C1.2.2
  have o21 := C2.2.1
  have o22 := C2.2.2
  have o51 := C5.2.1
  have o52 := C5.2.2
  have o61 := C6.2.1
  have o62 := C6.2.2
  have o71 := C7.2.1
  have o72 := C7.2.2
  have o81 := C8.2.1
  have o82 := C8.2.2
  have o91 := C9.2.1
  have o92 := C9.2.2
  have o101 := C10.2.1
  have o102 := C10.2.2
  clear o20 o21 o22
  clear o50 o51 o52
  clear o60 o61 o62
  clear o70 o71 o72
  clear o80 o81 o82
  clear o90 o91 o92
  cases k7 : (e8 == 0) with
  | false =>
    have k8 : (e8 != 0) = true := by rw [bne, k7]; rfl
    go_wp2
    go_ret
    exact ⟨rfl, HB.out⟩
  | true =>
    have k8 : (e8 != 0) = false := by rw [bne, k7]; rfl
    obtain ⟨zn, zi, zf, m, K1, K2⟩ := DZ.out (by simpa using k7)
    have DA := Lib.hid K1
    have DG := Lib.hid K2
    clear K1 K2
    go_wp2_with fail
    clear o00 o01 o02 o10 o11 o12 o100 o101 o102
    obtain ⟨V10x, hV10x⟩ : ∃ V10x, V10x = V10.alloc (.cells #[.bool hn, .string hi, .string hf] 23) := ⟨_, rfl⟩
    have HX := Lib.hid (show V10.heap.size + 1 = V10x.heap.size by rw [hV10x]; simp)
    rw [← hV10x]
    rw [← hV10x] at HB C0 z0 C1 z1 C10 z10
    clear hV10x
    (with_reducible refine (DA.out _).mono ?_)
    rintro e V11 ⟨rfl, hb⟩
    replace C0 := C0.keep hb (by omega)
    replace z0 : w.heap.size + 1 ≤ V11.heap.size := by have := hb.size; omega
    replace C1 := C1.keep hb (by omega)
    replace z1 : (w.heap.size + 1) + 1 ≤ V11.heap.size := by have := hb.size; omega
    replace C10 := C10.keep hb (by omega)
    replace z10 : V10.heap.size + 1 ≤ V11.heap.size := by have := hb.size; omega
    replace HB := Lib.hid (HB.out.trans (hb.mono HB.out.size))
    clear hb
    have ba : Below V11.heap.size V11 (V11.alloc (.cells #[.bool zn, .string zi, .string zf] 23)) := (Below.refl _ _).alloc (Nat.le_refl _) _
    replace C0 := C0.keep ba (by omega)
    replace z0 : w.heap.size + 1 ≤ (V11.alloc (.cells #[.bool zn, .string zi, .string zf] 23)).heap.size := by have := ba.size; omega
    replace C1 := C1.keep ba (by omega)
    replace z1 : (w.heap.size + 1) + 1 ≤ (V11.alloc (.cells #[.bool zn, .string zi, .string zf] 23)).heap.size := by have := ba.size; omega
    replace C10 := C10.keep ba (by omega)
    replace z10 : V10.heap.size + 1 ≤ (V11.alloc (.cells #[.bool zn, .string zi, .string zf] 23)).heap.size := by have := ba.size; omega
    replace HB := Lib.hid (HB.out.trans (ba.mono HB.out.size))
    clear ba
    have C11 : Cells3 (V11.alloc (.cells #[.bool zn, .string zi, .string zf] 23)) V11.heap.size (.bool zn) (.string zi) (.string zf) := (one_box V11 _ _ _ _).2.1
    have z11 : V11.heap.size + 1 ≤ (V11.alloc (.cells #[.bool zn, .string zi, .string zf] 23)).heap.size := by simp
    have o00 := C0.1
    have o10 := C1.1
    have o100 := C10.1
    have o110 := C11.1
    have o01 := C0.2.1
    have o02 := C0.2.2
    have o11 := C1.2.1
    have o12 := C1.2.2
    have o101 := C10.2.1
    have o102 := C10.2.2
    have o111 := C11.2.1
    have o112 := C11.2.2
    cases k9 : (m == 0) with
    | false =>
      have k10 : (m != 0) = true := by rw [bne, k9]; rfl
      go_wp2
      go_ret
      exact ⟨rfl, HB.out⟩
    | true =>
      have k10 : (m != 0) = false := by rw [bne, k9]; rfl
      have DG2 := Lib.hid (DG.out (by simpa using k9))
      clear DG
      go_wp2_with fail
      clear o00 o01 o02 o10 o11 o12 o100 o101 o102 o110 o111 o112
      obtain ⟨V11x, hV11x⟩ : ∃ V11x, V11x = V11.alloc (.cells #[.bool zn, .string zi, .string zf] 23) := ⟨_, rfl⟩
      have HX := Lib.hid (show V11.heap.size + 1 = V11x.heap.size by rw [hV11x]; simp)
      rw [← hV11x]
      rw [← hV11x] at HB C0 z0 C1 z1 C10 z10 C11 z11
      clear hV11x
      (with_reducible refine (DG2.out _).mono ?_)
      rintro e V12 ⟨rfl, hb⟩
      replace C0 := C0.keep hb (by omega)
      replace z0 : w.heap.size + 1 ≤ V12.heap.size := by have := hb.size; omega
      replace C1 := C1.keep hb (by omega)
      replace z1 : (w.heap.size + 1) + 1 ≤ V12.heap.size := by have := hb.size; omega
      replace C10 := C10.keep hb (by omega)
      replace z10 : V10.heap.size + 1 ≤ V12.heap.size := by have := hb.size; omega
      replace C11 := C11.keep hb (by omega)
      replace z11 : V11.heap.size + 1 ≤ V12.heap.size := by have := hb.size; omega
      replace HB := Lib.hid (HB.out.trans (hb.mono HB.out.size))
      clear hb
      have o00 := C0.1
      have o10 := C1.1
      have o100 := C10.1
      have o110 := C11.1
      have o01 := C0.2.1
      have o02 := C0.2.2
      have o11 := C1.2.1
      have o12 := C1.2.2
      have o101 := C10.2.1
      have o102 := C10.2.2
      have o111 := C11.2.1
      have o112 := C11.2.2
      go_wp2
      go_ret
      exact ⟨rfl, HB.out⟩

set_option maxHeartbeats 8000000 in
set_option maxRecDepth 100000 in
theorem ring_eeeaa (an bn cn dn gn pn rn sn hn : Bool) (ai af bi bf ci cf di df gi gf pi pf ri rf si sf hi hf : ByteArray) (e1 e3 f1 f3 f4 e8 : Int) (w : World) (HF : ∀ (g : Nat) (wx : World), g = wx.heap.size → Calls Try.prog 40 #[.slice (some ⟨g, 0, none⟩) 3 3] (wx.alloc (.cells #[.bool an, .string ai, .string af, .bool bn, .string bi, .string bf, .bool cn, .string ci, .string cf] 23)) fun e w' => e = .returned (.bool true) ∧ Below wx.heap.size wx w') (H1 : (∀ wx : World, Calls Try.prog 23 #[(.agg #[.bool an, .string ai, .string af]), (.agg #[.bool bn, .string bi, .string bf])] wx fun e w' => e = .returned (.tuple #[(.agg #[.bool dn, .string di, .string df]), .int .i64 e1]) ∧ Below wx.heap.size wx w')) (H2 : (∀ wx : World, Calls Try.prog 23 #[(.agg #[.bool bn, .string bi, .string bf]), (.agg #[.bool an, .string ai, .string af])] wx fun e w' => e = .returned (.tuple #[(.agg #[.bool dn, .string di, .string df]), .int .i64 e1]) ∧ Below wx.heap.size wx w')) (H3 : (∀ wx : World, Calls Try.prog 23 #[(.agg #[.bool bn, .string bi, .string bf]), (.agg #[.bool cn, .string ci, .string cf])] wx fun e w' => e = .returned (.tuple #[(.agg #[.bool gn, .string gi, .string gf]), .int .i64 e3]) ∧ Below wx.heap.size wx w')) (HS : e1 = 0 → e3 = 0 → ∃ (xn : Bool) (xi xf : ByteArray) (k : Int), (∀ wx : World, Calls Try.prog 23 #[(.agg #[.bool dn, .string di, .string df]), (.agg #[.bool cn, .string ci, .string cf])] wx fun e w' => e = .returned (.tuple #[(.agg #[.bool xn, .string xi, .string xf]), .int .i64 k]) ∧ Below wx.heap.size wx w') ∧ (∀ wx : World, Calls Try.prog 23 #[(.agg #[.bool an, .string ai, .string af]), (.agg #[.bool gn, .string gi, .string gf])] wx fun e w' => e = .returned (.tuple #[(.agg #[.bool xn, .string xi, .string xf]), .int .i64 k]) ∧ Below wx.heap.size wx w')) (H4 : (∀ wx : World, Calls Try.prog 28 #[(.agg #[.bool an, .string ai, .string af]), (.agg #[.bool bn, .string bi, .string bf])] wx fun e w' => e = .returned (.tuple #[(.agg #[.bool pn, .string pi, .string pf]), .int .i64 f1]) ∧ Below wx.heap.size wx w')) (H5 : (∀ wx : World, Calls Try.prog 28 #[(.agg #[.bool bn, .string bi, .string bf]), (.agg #[.bool an, .string ai, .string af])] wx fun e w' => e = .returned (.tuple #[(.agg #[.bool pn, .string pi, .string pf]), .int .i64 f1]) ∧ Below wx.heap.size wx w')) (H6 : (∀ wx : World, Calls Try.prog 28 #[(.agg #[.bool bn, .string bi, .string bf]), (.agg #[.bool cn, .string ci, .string cf])] wx fun e w' => e = .returned (.tuple #[(.agg #[.bool rn, .string ri, .string rf]), .int .i64 f3]) ∧ Below wx.heap.size wx w')) (H7 : (∀ wx : World, Calls Try.prog 28 #[(.agg #[.bool an, .string ai, .string af]), (.agg #[.bool cn, .string ci, .string cf])] wx fun e w' => e = .returned (.tuple #[(.agg #[.bool sn, .string si, .string sf]), .int .i64 f4]) ∧ Below wx.heap.size wx w')) (HM : f1 = 0 → f3 = 0 → ∃ (xn : Bool) (xi xf : ByteArray) (k : Int), (∀ wx : World, Calls Try.prog 28 #[(.agg #[.bool pn, .string pi, .string pf]), (.agg #[.bool cn, .string ci, .string cf])] wx fun e w' => e = .returned (.tuple #[(.agg #[.bool xn, .string xi, .string xf]), .int .i64 k]) ∧ Below wx.heap.size wx w') ∧ (∀ wx : World, Calls Try.prog 28 #[(.agg #[.bool an, .string ai, .string af]), (.agg #[.bool rn, .string ri, .string rf])] wx fun e w' => e = .returned (.tuple #[(.agg #[.bool xn, .string xi, .string xf]), .int .i64 k]) ∧ Below wx.heap.size wx w')) (HD : e3 = 0 → f1 = 0 → f4 = 0 → ∃ (xn : Bool) (xi xf : ByteArray) (k : Int) (yn : Bool) (yi yf : ByteArray) (m : Int), (∀ wx : World, Calls Try.prog 28 #[(.agg #[.bool an, .string ai, .string af]), (.agg #[.bool gn, .string gi, .string gf])] wx fun e w' => e = .returned (.tuple #[(.agg #[.bool xn, .string xi, .string xf]), .int .i64 k]) ∧ Below wx.heap.size wx w') ∧ (∀ wx : World, Calls Try.prog 23 #[(.agg #[.bool pn, .string pi, .string pf]), (.agg #[.bool sn, .string si, .string sf])] wx fun e w' => e = .returned (.tuple #[(.agg #[.bool yn, .string yi, .string yf]), .int .i64 m]) ∧ Below wx.heap.size wx w') ∧ (k = 0 → m = 0 → (∀ wx : World, Calls Try.prog 41 #[(.agg #[.bool xn, .string xi, .string xf]), (.agg #[.bool yn, .string yi, .string yf])] wx fun e w' => e = .returned (.bool true) ∧ Below wx.heap.size wx w'))) (H8 : (∀ wx : World, Calls Try.prog 26 #[(.agg #[.bool an, .string ai, .string af]), (.agg #[.bool bn, .string bi, .string bf])] wx fun e w' => e = .returned (.tuple #[(.agg #[.bool hn, .string hi, .string hf]), .int .i64 e8]) ∧ Below wx.heap.size wx w')) (HZ : e8 = 0 → ∃ (zn : Bool) (zi zf : ByteArray) (m : Int), (∀ wx : World, Calls Try.prog 23 #[(.agg #[.bool hn, .string hi, .string hf]), (.agg #[.bool bn, .string bi, .string bf])] wx fun e w' => e = .returned (.tuple #[(.agg #[.bool zn, .string zi, .string zf]), .int .i64 m]) ∧ Below wx.heap.size wx w') ∧ (m = 0 → (∀ wx : World, Calls Try.prog 41 #[(.agg #[.bool zn, .string zi, .string zf]), (.agg #[.bool an, .string ai, .string af])] wx fun e w' => e = .returned (.bool true) ∧ Below wx.heap.size wx w'))) (ge1 : (e1 == 0) = false) (ge3 : (e3 == 0) = false) (gf1 : (f1 == 0) = false) :
    Calls Try.prog 10 #[(.agg #[.bool an, .string ai, .string af]), (.agg #[.bool bn, .string bi, .string bf]), (.agg #[.bool cn, .string ci, .string cf])] w fun e w' => e = .returned (.bool true) ∧ Below w.heap.size w w' := by
  have DW := Lib.hid awake_any
  have DF := Lib.hid HF
  have D1 := Lib.hid H1
  have D2 := Lib.hid H2
  have D3 := Lib.hid H3
  have DS := Lib.hid HS
  have D4 := Lib.hid H4
  have D5 := Lib.hid H5
  have D6 := Lib.hid H6
  have D7 := Lib.hid H7
  have DM := Lib.hid HM
  have DD := Lib.hid HD
  have D8 := Lib.hid H8
  have DZ := Lib.hid HZ
  clear HF H1 H2 H3 HS H4 H5 H6 H7 HM HD H8 HZ
  have qdn : (dn != dn) = false := bne_self_eq_false _
  have qdm : (dn == dn) = true := beq_self_eq_true _
  have qdi : (di.toList == di.toList) = true := beq_self_eq_true _
  have qdf : (df.toList == df.toList) = true := beq_self_eq_true _
  have qpn : (pn != pn) = false := bne_self_eq_false _
  have qpm : (pn == pn) = true := beq_self_eq_true _
  have qpi : (pi.toList == pi.toList) = true := beq_self_eq_true _
  have qpf : (pf.toList == pf.toList) = true := beq_self_eq_true _
  have qe1 : (e1 != e1) = false := bne_self_eq_false _
  have qf1 : (f1 != f1) = false := bne_self_eq_false _
  go_enter Try.func10, Try.ntmps10
  go_wp2_with fail
  obtain ⟨W0, hW0⟩ : ∃ W0, W0 = (((w.alloc (.cells #[.bool an, .string ai, .string af] 23)).alloc (.cells #[.bool bn, .string bi, .string bf] 23)).alloc (.cells #[.bool cn, .string ci, .string cf] 23)) := ⟨_, rfl⟩
  obtain ⟨hB, hz, C0, C1, C2, _⟩ : Below w.heap.size w W0 ∧ w.heap.size + 3 ≤ W0.heap.size ∧ Cells3 W0 w.heap.size (.bool an) (.string ai) (.string af) ∧ Cells3 W0 (w.heap.size + 1) (.bool bn) (.string bi) (.string bf) ∧ Cells3 W0 (w.heap.size + 2) (.bool cn) (.string ci) (.string cf) ∧ ∀ i, W0.frozen? ⟨(w.heap.size + 2), i, none⟩ = false := by rw [hW0]; exact ⟨below_three w _ _ _, three_boxes w _ _ _ _ _ _ _ _ _ _⟩
  have z0 : w.heap.size + 1 ≤ W0.heap.size := by omega
  have z1 : (w.heap.size + 1) + 1 ≤ W0.heap.size := by omega
  have z2 : (w.heap.size + 2) + 1 ≤ W0.heap.size := by omega
  rw [← hW0]
  have HB := Lib.hid hB
  clear hW0 hB hz
  (with_reducible refine (DW.out _).mono ?_)
  rintro e V1 ⟨rfl, hb⟩
  replace C0 := C0.keep hb (by omega)
  replace z0 : w.heap.size + 1 ≤ V1.heap.size := by have := hb.size; omega
  replace C1 := C1.keep hb (by omega)
  replace z1 : (w.heap.size + 1) + 1 ≤ V1.heap.size := by have := hb.size; omega
  replace C2 := C2.keep hb (by omega)
  replace z2 : (w.heap.size + 2) + 1 ≤ V1.heap.size := by have := hb.size; omega
  replace HB := Lib.hid (HB.out.trans (hb.mono HB.out.size))
  clear hb
  have o00 := C0.1
  have o10 := C1.1
  have o20 := C2.1
  have o01 := C0.2.1
  have o02 := C0.2.2
  have o11 := C1.2.1
  have o12 := C1.2.2
  have o21 := C2.2.1
  have o22 := C2.2.2
  go_wp2_with fail
  clear o00 o01 o02 o10 o11 o12 o20 o21 o22
  (with_reducible refine (DF.out _ _ ?_).mono ?_)
  · rfl
  rintro e V2 ⟨rfl, hb⟩
  replace C0 := C0.keep hb (by omega)
  replace z0 : w.heap.size + 1 ≤ V2.heap.size := by have := hb.size; omega
  replace C1 := C1.keep hb (by omega)
  replace z1 : (w.heap.size + 1) + 1 ≤ V2.heap.size := by have := hb.size; omega
  replace C2 := C2.keep hb (by omega)
  replace z2 : (w.heap.size + 2) + 1 ≤ V2.heap.size := by have := hb.size; omega
  replace HB := Lib.hid (HB.out.trans (hb.mono HB.out.size))
  clear hb
  have o00 := C0.1
  have o10 := C1.1
  have o20 := C2.1
  have o01 := C0.2.1
  have o02 := C0.2.2
  have o11 := C1.2.1
  have o12 := C1.2.2
  have o21 := C2.2.1
  have o22 := C2.2.2
  go_wp2_with fail
  clear o00 o01 o02 o10 o11 o12 o20 o21 o22
  (with_reducible refine (D1.out _).mono ?_)
  rintro e V3 ⟨rfl, hb⟩
  replace C0 := C0.keep hb (by omega)
  replace z0 : w.heap.size + 1 ≤ V3.heap.size := by have := hb.size; omega
  replace C1 := C1.keep hb (by omega)
  replace z1 : (w.heap.size + 1) + 1 ≤ V3.heap.size := by have := hb.size; omega
  replace C2 := C2.keep hb (by omega)
  replace z2 : (w.heap.size + 2) + 1 ≤ V3.heap.size := by have := hb.size; omega
  replace HB := Lib.hid (HB.out.trans (hb.mono HB.out.size))
  clear hb
  have ba : Below V3.heap.size V3 (V3.alloc (.cells #[.bool dn, .string di, .string df] 23)) := (Below.refl _ _).alloc (Nat.le_refl _) _
  replace C0 := C0.keep ba (by omega)
  replace z0 : w.heap.size + 1 ≤ (V3.alloc (.cells #[.bool dn, .string di, .string df] 23)).heap.size := by have := ba.size; omega
  replace C1 := C1.keep ba (by omega)
  replace z1 : (w.heap.size + 1) + 1 ≤ (V3.alloc (.cells #[.bool dn, .string di, .string df] 23)).heap.size := by have := ba.size; omega
  replace C2 := C2.keep ba (by omega)
  replace z2 : (w.heap.size + 2) + 1 ≤ (V3.alloc (.cells #[.bool dn, .string di, .string df] 23)).heap.size := by have := ba.size; omega
  replace HB := Lib.hid (HB.out.trans (ba.mono HB.out.size))
  clear ba
  have C3 : Cells3 (V3.alloc (.cells #[.bool dn, .string di, .string df] 23)) V3.heap.size (.bool dn) (.string di) (.string df) := (one_box V3 _ _ _ _).2.1
  have z3 : V3.heap.size + 1 ≤ (V3.alloc (.cells #[.bool dn, .string di, .string df] 23)).heap.size := by simp
  have o00 := C0.1
  have o10 := C1.1
  have o20 := C2.1
  have o30 := C3.1
  have o01 := C0.2.1
  have o02 := C0.2.2
  have o11 := C1.2.1
  have o12 := C1.2.2
  have o21 := C2.2.1
  have o22 := C2.2.2
  have o31 := C3.2.1
  have o32 := C3.2.2
  go_wp2_with fail
  clear o00 o01 o02 o10 o11 o12 o20 o21 o22 o30 o31 o32
  obtain ⟨V3x, hV3x⟩ : ∃ V3x, V3x = V3.alloc (.cells #[.bool dn, .string di, .string df] 23) := ⟨_, rfl⟩
  have HX := Lib.hid (show V3.heap.size + 1 = V3x.heap.size by rw [hV3x]; simp)
  rw [← hV3x]
  rw [← hV3x] at HB C0 z0 C1 z1 C2 z2 C3 z3
  clear hV3x
  (with_reducible refine (D2.out _).mono ?_)
  rintro e V4 ⟨rfl, hb⟩
  replace C0 := C0.keep hb (by omega)
  replace z0 : w.heap.size + 1 ≤ V4.heap.size := by have := hb.size; omega
  replace C1 := C1.keep hb (by omega)
  replace z1 : (w.heap.size + 1) + 1 ≤ V4.heap.size := by have := hb.size; omega
  replace C2 := C2.keep hb (by omega)
  replace z2 : (w.heap.size + 2) + 1 ≤ V4.heap.size := by have := hb.size; omega
  replace C3 := C3.keep hb (by omega)
  replace z3 : V3.heap.size + 1 ≤ V4.heap.size := by have := hb.size; omega
  replace HB := Lib.hid (HB.out.trans (hb.mono HB.out.size))
  clear hb
  have ba : Below V4.heap.size V4 (V4.alloc (.cells #[.bool dn, .string di, .string df] 23)) := (Below.refl _ _).alloc (Nat.le_refl _) _
  replace C0 := C0.keep ba (by omega)
  replace z0 : w.heap.size + 1 ≤ (V4.alloc (.cells #[.bool dn, .string di, .string df] 23)).heap.size := by have := ba.size; omega
  replace C1 := C1.keep ba (by omega)
  replace z1 : (w.heap.size + 1) + 1 ≤ (V4.alloc (.cells #[.bool dn, .string di, .string df] 23)).heap.size := by have := ba.size; omega
  replace C2 := C2.keep ba (by omega)
  replace z2 : (w.heap.size + 2) + 1 ≤ (V4.alloc (.cells #[.bool dn, .string di, .string df] 23)).heap.size := by have := ba.size; omega
  replace C3 := C3.keep ba (by omega)
  replace z3 : V3.heap.size + 1 ≤ (V4.alloc (.cells #[.bool dn, .string di, .string df] 23)).heap.size := by have := ba.size; omega
  replace HB := Lib.hid (HB.out.trans (ba.mono HB.out.size))
  clear ba
  have C4 : Cells3 (V4.alloc (.cells #[.bool dn, .string di, .string df] 23)) V4.heap.size (.bool dn) (.string di) (.string df) := (one_box V4 _ _ _ _).2.1
  have z4 : V4.heap.size + 1 ≤ (V4.alloc (.cells #[.bool dn, .string di, .string df] 23)).heap.size := by simp
  have o00 := C0.1
  have o10 := C1.1
  have o20 := C2.1
  have o30 := C3.1
  have o40 := C4.1
  have o01 := C0.2.1
  have o02 := C0.2.2
  have o11 := C1.2.1
  have o12 := C1.2.2
  have o21 := C2.2.1
  have o22 := C2.2.2
  have o31 := C3.2.1
  have o32 := C3.2.2
  have o41 := C4.2.1
  have o42 := C4.2.2
  go_wp2_with fail
  clear o00 o01 o02 o10 o11 o12 o20 o21 o22 o30 o31 o32 o40 o41 o42
  obtain ⟨V4x, hV4x⟩ : ∃ V4x, V4x = V4.alloc (.cells #[.bool dn, .string di, .string df] 23) := ⟨_, rfl⟩
  have HX := Lib.hid (show V4.heap.size + 1 = V4x.heap.size by rw [hV4x]; simp)
  rw [← hV4x]
  rw [← hV4x] at HB C0 z0 C1 z1 C2 z2 C3 z3 C4 z4
  clear hV4x
  (with_reducible refine (D3.out _).mono ?_)
  rintro e V5 ⟨rfl, hb⟩
  replace C0 := C0.keep hb (by omega)
  replace z0 : w.heap.size + 1 ≤ V5.heap.size := by have := hb.size; omega
  replace C1 := C1.keep hb (by omega)
  replace z1 : (w.heap.size + 1) + 1 ≤ V5.heap.size := by have := hb.size; omega
  replace C2 := C2.keep hb (by omega)
  replace z2 : (w.heap.size + 2) + 1 ≤ V5.heap.size := by have := hb.size; omega
  replace C3 := C3.keep hb (by omega)
  replace z3 : V3.heap.size + 1 ≤ V5.heap.size := by have := hb.size; omega
  replace C4 := C4.keep hb (by omega)
  replace z4 : V4.heap.size + 1 ≤ V5.heap.size := by have := hb.size; omega
  replace HB := Lib.hid (HB.out.trans (hb.mono HB.out.size))
  clear hb
  have ba : Below V5.heap.size V5 (V5.alloc (.cells #[.bool gn, .string gi, .string gf] 23)) := (Below.refl _ _).alloc (Nat.le_refl _) _
  replace C0 := C0.keep ba (by omega)
  replace z0 : w.heap.size + 1 ≤ (V5.alloc (.cells #[.bool gn, .string gi, .string gf] 23)).heap.size := by have := ba.size; omega
  replace C1 := C1.keep ba (by omega)
  replace z1 : (w.heap.size + 1) + 1 ≤ (V5.alloc (.cells #[.bool gn, .string gi, .string gf] 23)).heap.size := by have := ba.size; omega
  replace C2 := C2.keep ba (by omega)
  replace z2 : (w.heap.size + 2) + 1 ≤ (V5.alloc (.cells #[.bool gn, .string gi, .string gf] 23)).heap.size := by have := ba.size; omega
  replace C3 := C3.keep ba (by omega)
  replace z3 : V3.heap.size + 1 ≤ (V5.alloc (.cells #[.bool gn, .string gi, .string gf] 23)).heap.size := by have := ba.size; omega
  replace C4 := C4.keep ba (by omega)
  replace z4 : V4.heap.size + 1 ≤ (V5.alloc (.cells #[.bool gn, .string gi, .string gf] 23)).heap.size := by have := ba.size; omega
  replace HB := Lib.hid (HB.out.trans (ba.mono HB.out.size))
  clear ba
  have C5 : Cells3 (V5.alloc (.cells #[.bool gn, .string gi, .string gf] 23)) V5.heap.size (.bool gn) (.string gi) (.string gf) := (one_box V5 _ _ _ _).2.1
  have z5 : V5.heap.size + 1 ≤ (V5.alloc (.cells #[.bool gn, .string gi, .string gf] 23)).heap.size := by simp
  have o00 := C0.1
  have o10 := C1.1
  have o20 := C2.1
  have o30 := C3.1
  have o40 := C4.1
  have o50 := C5.1
  have o01 := C0.2.1
  have o02 := C0.2.2
  have o11 := C1.2.1
  have o12 := C1.2.2
  have o21 := C2.2.1
  have o22 := C2.2.2
  have o31 := C3.2.1
  have o32 := C3.2.2
  have o41 := C4.2.1
  have o42 := C4.2.2
  have o51 := C5.2.1
  have o52 := C5.2.2
  go_wp2_with fail
  clear o00 o01 o02 o10 o11 o12 o20 o21 o22 o30 o31 o32 o40 o41 o42 o50 o51 o52
  obtain ⟨V5x, hV5x⟩ : ∃ V5x, V5x = V5.alloc (.cells #[.bool gn, .string gi, .string gf] 23) := ⟨_, rfl⟩
  have HX := Lib.hid (show V5.heap.size + 1 = V5x.heap.size by rw [hV5x]; simp)
  rw [← hV5x]
  rw [← hV5x] at HB C0 z0 C1 z1 C2 z2 C3 z3 C4 z4 C5 z5
  clear hV5x
  (with_reducible refine (D4.out _).mono ?_)
  rintro e V6 ⟨rfl, hb⟩
  replace C0 := C0.keep hb (by omega)
  replace z0 : w.heap.size + 1 ≤ V6.heap.size := by have := hb.size; omega
  replace C1 := C1.keep hb (by omega)
  replace z1 : (w.heap.size + 1) + 1 ≤ V6.heap.size := by have := hb.size; omega
  replace C2 := C2.keep hb (by omega)
  replace z2 : (w.heap.size + 2) + 1 ≤ V6.heap.size := by have := hb.size; omega
  replace C3 := C3.keep hb (by omega)
  replace z3 : V3.heap.size + 1 ≤ V6.heap.size := by have := hb.size; omega
  replace C4 := C4.keep hb (by omega)
  replace z4 : V4.heap.size + 1 ≤ V6.heap.size := by have := hb.size; omega
  replace C5 := C5.keep hb (by omega)
  replace z5 : V5.heap.size + 1 ≤ V6.heap.size := by have := hb.size; omega
  replace HB := Lib.hid (HB.out.trans (hb.mono HB.out.size))
  clear hb
  have ba : Below V6.heap.size V6 (V6.alloc (.cells #[.bool pn, .string pi, .string pf] 23)) := (Below.refl _ _).alloc (Nat.le_refl _) _
  replace C0 := C0.keep ba (by omega)
  replace z0 : w.heap.size + 1 ≤ (V6.alloc (.cells #[.bool pn, .string pi, .string pf] 23)).heap.size := by have := ba.size; omega
  replace C1 := C1.keep ba (by omega)
  replace z1 : (w.heap.size + 1) + 1 ≤ (V6.alloc (.cells #[.bool pn, .string pi, .string pf] 23)).heap.size := by have := ba.size; omega
  replace C2 := C2.keep ba (by omega)
  replace z2 : (w.heap.size + 2) + 1 ≤ (V6.alloc (.cells #[.bool pn, .string pi, .string pf] 23)).heap.size := by have := ba.size; omega
  replace C3 := C3.keep ba (by omega)
  replace z3 : V3.heap.size + 1 ≤ (V6.alloc (.cells #[.bool pn, .string pi, .string pf] 23)).heap.size := by have := ba.size; omega
  replace C4 := C4.keep ba (by omega)
  replace z4 : V4.heap.size + 1 ≤ (V6.alloc (.cells #[.bool pn, .string pi, .string pf] 23)).heap.size := by have := ba.size; omega
  replace C5 := C5.keep ba (by omega)
  replace z5 : V5.heap.size + 1 ≤ (V6.alloc (.cells #[.bool pn, .string pi, .string pf] 23)).heap.size := by have := ba.size; omega
  replace HB := Lib.hid (HB.out.trans (ba.mono HB.out.size))
  clear ba
  have C6 : Cells3 (V6.alloc (.cells #[.bool pn, .string pi, .string pf] 23)) V6.heap.size (.bool pn) (.string pi) (.string pf) := (one_box V6 _ _ _ _).2.1
  have z6 : V6.heap.size + 1 ≤ (V6.alloc (.cells #[.bool pn, .string pi, .string pf] 23)).heap.size := by simp
  have o00 := C0.1
  have o10 := C1.1
  have o20 := C2.1
  have o30 := C3.1
  have o40 := C4.1
  have o50 := C5.1
  have o60 := C6.1
  have o01 := C0.2.1
  have o02 := C0.2.2
  have o11 := C1.2.1
  have o12 := C1.2.2
  have o21 := C2.2.1
  have o22 := C2.2.2
  have o31 := C3.2.1
  have o32 := C3.2.2
  have o41 := C4.2.1
  have o42 := C4.2.2
  have o51 := C5.2.1
  have o52 := C5.2.2
  have o61 := C6.2.1
  have o62 := C6.2.2
  clear o30 o31 o32
  clear o40 o41 o42
  go_wp2_with fail
  clear o00 o01 o02 o10 o11 o12 o20 o21 o22 o50 o51 o52 o60 o61 o62
  obtain ⟨V6x, hV6x⟩ : ∃ V6x, V6x = V6.alloc (.cells #[.bool pn, .string pi, .string pf] 23) := ⟨_, rfl⟩
  have HX := Lib.hid (show V6.heap.size + 1 = V6x.heap.size by rw [hV6x]; simp)
  rw [← hV6x]
  rw [← hV6x] at HB C0 z0 C1 z1 C2 z2 C5 z5 C6 z6
  clear hV6x
  (with_reducible refine (D5.out _).mono ?_)
  rintro e V7 ⟨rfl, hb⟩
  replace C0 := C0.keep hb (by omega)
  replace z0 : w.heap.size + 1 ≤ V7.heap.size := by have := hb.size; omega
  replace C1 := C1.keep hb (by omega)
  replace z1 : (w.heap.size + 1) + 1 ≤ V7.heap.size := by have := hb.size; omega
  replace C2 := C2.keep hb (by omega)
  replace z2 : (w.heap.size + 2) + 1 ≤ V7.heap.size := by have := hb.size; omega
  replace C5 := C5.keep hb (by omega)
  replace z5 : V5.heap.size + 1 ≤ V7.heap.size := by have := hb.size; omega
  replace C6 := C6.keep hb (by omega)
  replace z6 : V6.heap.size + 1 ≤ V7.heap.size := by have := hb.size; omega
  replace HB := Lib.hid (HB.out.trans (hb.mono HB.out.size))
  clear hb
  have ba : Below V7.heap.size V7 (V7.alloc (.cells #[.bool pn, .string pi, .string pf] 23)) := (Below.refl _ _).alloc (Nat.le_refl _) _
  replace C0 := C0.keep ba (by omega)
  replace z0 : w.heap.size + 1 ≤ (V7.alloc (.cells #[.bool pn, .string pi, .string pf] 23)).heap.size := by have := ba.size; omega
  replace C1 := C1.keep ba (by omega)
  replace z1 : (w.heap.size + 1) + 1 ≤ (V7.alloc (.cells #[.bool pn, .string pi, .string pf] 23)).heap.size := by have := ba.size; omega
  replace C2 := C2.keep ba (by omega)
  replace z2 : (w.heap.size + 2) + 1 ≤ (V7.alloc (.cells #[.bool pn, .string pi, .string pf] 23)).heap.size := by have := ba.size; omega
  replace C5 := C5.keep ba (by omega)
  replace z5 : V5.heap.size + 1 ≤ (V7.alloc (.cells #[.bool pn, .string pi, .string pf] 23)).heap.size := by have := ba.size; omega
  replace C6 := C6.keep ba (by omega)
  replace z6 : V6.heap.size + 1 ≤ (V7.alloc (.cells #[.bool pn, .string pi, .string pf] 23)).heap.size := by have := ba.size; omega
  replace HB := Lib.hid (HB.out.trans (ba.mono HB.out.size))
  clear ba
  have C7 : Cells3 (V7.alloc (.cells #[.bool pn, .string pi, .string pf] 23)) V7.heap.size (.bool pn) (.string pi) (.string pf) := (one_box V7 _ _ _ _).2.1
  have z7 : V7.heap.size + 1 ≤ (V7.alloc (.cells #[.bool pn, .string pi, .string pf] 23)).heap.size := by simp
  have o00 := C0.1
  have o10 := C1.1
  have o20 := C2.1
  have o50 := C5.1
  have o60 := C6.1
  have o70 := C7.1
  have o01 := C0.2.1
  have o02 := C0.2.2
  have o11 := C1.2.1
  have o12 := C1.2.2
  have o21 := C2.2.1
  have o22 := C2.2.2
  have o51 := C5.2.1
  have o52 := C5.2.2
  have o61 := C6.2.1
  have o62 := C6.2.2
  have o71 := C7.2.1
  have o72 := C7.2.2
  go_wp2_with fail
  clear o00 o01 o02 o10 o11 o12 o20 o21 o22 o50 o51 o52 o60 o61 o62 o70 o71 o72
  obtain ⟨V7x, hV7x⟩ : ∃ V7x, V7x = V7.alloc (.cells #[.bool pn, .string pi, .string pf] 23) := ⟨_, rfl⟩
  have HX := Lib.hid (show V7.heap.size + 1 = V7x.heap.size by rw [hV7x]; simp)
  rw [← hV7x]
  rw [← hV7x] at HB C0 z0 C1 z1 C2 z2 C5 z5 C6 z6 C7 z7
  clear hV7x
  (with_reducible refine (D6.out _).mono ?_)
  rintro e V8 ⟨rfl, hb⟩
  replace C0 := C0.keep hb (by omega)
  replace z0 : w.heap.size + 1 ≤ V8.heap.size := by have := hb.size; omega
  replace C1 := C1.keep hb (by omega)
  replace z1 : (w.heap.size + 1) + 1 ≤ V8.heap.size := by have := hb.size; omega
  replace C2 := C2.keep hb (by omega)
  replace z2 : (w.heap.size + 2) + 1 ≤ V8.heap.size := by have := hb.size; omega
  replace C5 := C5.keep hb (by omega)
  replace z5 : V5.heap.size + 1 ≤ V8.heap.size := by have := hb.size; omega
  replace C6 := C6.keep hb (by omega)
  replace z6 : V6.heap.size + 1 ≤ V8.heap.size := by have := hb.size; omega
  replace C7 := C7.keep hb (by omega)
  replace z7 : V7.heap.size + 1 ≤ V8.heap.size := by have := hb.size; omega
  replace HB := Lib.hid (HB.out.trans (hb.mono HB.out.size))
  clear hb
  have ba : Below V8.heap.size V8 (V8.alloc (.cells #[.bool rn, .string ri, .string rf] 23)) := (Below.refl _ _).alloc (Nat.le_refl _) _
  replace C0 := C0.keep ba (by omega)
  replace z0 : w.heap.size + 1 ≤ (V8.alloc (.cells #[.bool rn, .string ri, .string rf] 23)).heap.size := by have := ba.size; omega
  replace C1 := C1.keep ba (by omega)
  replace z1 : (w.heap.size + 1) + 1 ≤ (V8.alloc (.cells #[.bool rn, .string ri, .string rf] 23)).heap.size := by have := ba.size; omega
  replace C2 := C2.keep ba (by omega)
  replace z2 : (w.heap.size + 2) + 1 ≤ (V8.alloc (.cells #[.bool rn, .string ri, .string rf] 23)).heap.size := by have := ba.size; omega
  replace C5 := C5.keep ba (by omega)
  replace z5 : V5.heap.size + 1 ≤ (V8.alloc (.cells #[.bool rn, .string ri, .string rf] 23)).heap.size := by have := ba.size; omega
  replace C6 := C6.keep ba (by omega)
  replace z6 : V6.heap.size + 1 ≤ (V8.alloc (.cells #[.bool rn, .string ri, .string rf] 23)).heap.size := by have := ba.size; omega
  replace C7 := C7.keep ba (by omega)
  replace z7 : V7.heap.size + 1 ≤ (V8.alloc (.cells #[.bool rn, .string ri, .string rf] 23)).heap.size := by have := ba.size; omega
  replace HB := Lib.hid (HB.out.trans (ba.mono HB.out.size))
  clear ba
  have C8 : Cells3 (V8.alloc (.cells #[.bool rn, .string ri, .string rf] 23)) V8.heap.size (.bool rn) (.string ri) (.string rf) := (one_box V8 _ _ _ _).2.1
  have z8 : V8.heap.size + 1 ≤ (V8.alloc (.cells #[.bool rn, .string ri, .string rf] 23)).heap.size := by simp
  have o00 := C0.1
  have o10 := C1.1
  have o20 := C2.1
  have o50 := C5.1
  have o60 := C6.1
  have o70 := C7.1
  have o80 := C8.1
  have o01 := C0.2.1
  have o02 := C0.2.2
  have o11 := C1.2.1
  have o12 := C1.2.2
  have o21 := C2.2.1
  have o22 := C2.2.2
  have o51 := C5.2.1
  have o52 := C5.2.2
  have o61 := C6.2.1
  have o62 := C6.2.2
  have o71 := C7.2.1
  have o72 := C7.2.2
  have o81 := C8.2.1
  have o82 := C8.2.2
  go_wp2_with fail
  clear o00 o01 o02 o10 o11 o12 o20 o21 o22 o50 o51 o52 o60 o61 o62 o70 o71 o72 o80 o81 o82
  obtain ⟨V8x, hV8x⟩ : ∃ V8x, V8x = V8.alloc (.cells #[.bool rn, .string ri, .string rf] 23) := ⟨_, rfl⟩
  have HX := Lib.hid (show V8.heap.size + 1 = V8x.heap.size by rw [hV8x]; simp)
  rw [← hV8x]
  rw [← hV8x] at HB C0 z0 C1 z1 C2 z2 C5 z5 C6 z6 C7 z7 C8 z8
  clear hV8x
  (with_reducible refine (D7.out _).mono ?_)
  rintro e V9 ⟨rfl, hb⟩
  replace C0 := C0.keep hb (by omega)
  replace z0 : w.heap.size + 1 ≤ V9.heap.size := by have := hb.size; omega
  replace C1 := C1.keep hb (by omega)
  replace z1 : (w.heap.size + 1) + 1 ≤ V9.heap.size := by have := hb.size; omega
  replace C2 := C2.keep hb (by omega)
  replace z2 : (w.heap.size + 2) + 1 ≤ V9.heap.size := by have := hb.size; omega
  replace C5 := C5.keep hb (by omega)
  replace z5 : V5.heap.size + 1 ≤ V9.heap.size := by have := hb.size; omega
  replace C6 := C6.keep hb (by omega)
  replace z6 : V6.heap.size + 1 ≤ V9.heap.size := by have := hb.size; omega
  replace C7 := C7.keep hb (by omega)
  replace z7 : V7.heap.size + 1 ≤ V9.heap.size := by have := hb.size; omega
  replace C8 := C8.keep hb (by omega)
  replace z8 : V8.heap.size + 1 ≤ V9.heap.size := by have := hb.size; omega
  replace HB := Lib.hid (HB.out.trans (hb.mono HB.out.size))
  clear hb
  have ba : Below V9.heap.size V9 (V9.alloc (.cells #[.bool sn, .string si, .string sf] 23)) := (Below.refl _ _).alloc (Nat.le_refl _) _
  replace C0 := C0.keep ba (by omega)
  replace z0 : w.heap.size + 1 ≤ (V9.alloc (.cells #[.bool sn, .string si, .string sf] 23)).heap.size := by have := ba.size; omega
  replace C1 := C1.keep ba (by omega)
  replace z1 : (w.heap.size + 1) + 1 ≤ (V9.alloc (.cells #[.bool sn, .string si, .string sf] 23)).heap.size := by have := ba.size; omega
  replace C2 := C2.keep ba (by omega)
  replace z2 : (w.heap.size + 2) + 1 ≤ (V9.alloc (.cells #[.bool sn, .string si, .string sf] 23)).heap.size := by have := ba.size; omega
  replace C5 := C5.keep ba (by omega)
  replace z5 : V5.heap.size + 1 ≤ (V9.alloc (.cells #[.bool sn, .string si, .string sf] 23)).heap.size := by have := ba.size; omega
  replace C6 := C6.keep ba (by omega)
  replace z6 : V6.heap.size + 1 ≤ (V9.alloc (.cells #[.bool sn, .string si, .string sf] 23)).heap.size := by have := ba.size; omega
  replace C7 := C7.keep ba (by omega)
  replace z7 : V7.heap.size + 1 ≤ (V9.alloc (.cells #[.bool sn, .string si, .string sf] 23)).heap.size := by have := ba.size; omega
  replace C8 := C8.keep ba (by omega)
  replace z8 : V8.heap.size + 1 ≤ (V9.alloc (.cells #[.bool sn, .string si, .string sf] 23)).heap.size := by have := ba.size; omega
  replace HB := Lib.hid (HB.out.trans (ba.mono HB.out.size))
  clear ba
  have C9 : Cells3 (V9.alloc (.cells #[.bool sn, .string si, .string sf] 23)) V9.heap.size (.bool sn) (.string si) (.string sf) := (one_box V9 _ _ _ _).2.1
  have z9 : V9.heap.size + 1 ≤ (V9.alloc (.cells #[.bool sn, .string si, .string sf] 23)).heap.size := by simp
  have o00 := C0.1
  have o10 := C1.1
  have o20 := C2.1
  have o50 := C5.1
  have o60 := C6.1
  have o70 := C7.1
  have o80 := C8.1
  have o90 := C9.1
  have o01 := C0.2.1
  have o02 := C0.2.2
  have o11 := C1.2.1
  have o12 := C1.2.2
  have o21 := C2.2.1
  have o22 := C2.2.2
  have o51 := C5.2.1
  have o52 := C5.2.2
  have o61 := C6.2.1
  have o62 := C6.2.2
  have o71 := C7.2.1
  have o72 := C7.2.2
  have o81 := C8.2.1
  have o82 := C8.2.2
  have o91 := C9.2.1
  have o92 := C9.2.2
  go_wp2_with fail
  clear o00 o01 o02 o10 o11 o12 o20 o21 o22 o50 o51 o52 o60 o61 o62 o70 o71 o72 o80 o81 o82 o90 o91 o92
  obtain ⟨V9x, hV9x⟩ : ∃ V9x, V9x = V9.alloc (.cells #[.bool sn, .string si, .string sf] 23) := ⟨_, rfl⟩
  have HX := Lib.hid (show V9.heap.size + 1 = V9x.heap.size by rw [hV9x]; simp)
  rw [← hV9x]
  rw [← hV9x] at HB C0 z0 C1 z1 C2 z2 C5 z5 C6 z6 C7 z7 C8 z8 C9 z9
  clear hV9x
  (with_reducible refine (D8.out _).mono ?_)
  rintro e V10 ⟨rfl, hb⟩
  replace C0 := C0.keep hb (by omega)
  replace z0 : w.heap.size + 1 ≤ V10.heap.size := by have := hb.size; omega
  replace C1 := C1.keep hb (by omega)
  replace z1 : (w.heap.size + 1) + 1 ≤ V10.heap.size := by have := hb.size; omega
  replace C2 := C2.keep hb (by omega)
  replace z2 : (w.heap.size + 2) + 1 ≤ V10.heap.size := by have := hb.size; omega
  replace C5 := C5.keep hb (by omega)
  replace z5 : V5.heap.size + 1 ≤ V10.heap.size := by have := hb.size; omega
  replace C6 := C6.keep hb (by omega)
  replace z6 : V6.heap.size + 1 ≤ V10.heap.size := by have := hb.size; omega
  replace C7 := C7.keep hb (by omega)
  replace z7 : V7.heap.size + 1 ≤ V10.heap.size := by have := hb.size; omega
  replace C8 := C8.keep hb (by omega)
  replace z8 : V8.heap.size + 1 ≤ V10.heap.size := by have := hb.size; omega
  replace C9 := C9.keep hb (by omega)
  replace z9 : V9.heap.size + 1 ≤ V10.heap.size := by have := hb.size; omega
  replace HB := Lib.hid (HB.out.trans (hb.mono HB.out.size))
  clear hb
  have ba : Below V10.heap.size V10 (V10.alloc (.cells #[.bool hn, .string hi, .string hf] 23)) := (Below.refl _ _).alloc (Nat.le_refl _) _
  replace C0 := C0.keep ba (by omega)
  replace z0 : w.heap.size + 1 ≤ (V10.alloc (.cells #[.bool hn, .string hi, .string hf] 23)).heap.size := by have := ba.size; omega
  replace C1 := C1.keep ba (by omega)
  replace z1 : (w.heap.size + 1) + 1 ≤ (V10.alloc (.cells #[.bool hn, .string hi, .string hf] 23)).heap.size := by have := ba.size; omega
  replace C2 := C2.keep ba (by omega)
  replace z2 : (w.heap.size + 2) + 1 ≤ (V10.alloc (.cells #[.bool hn, .string hi, .string hf] 23)).heap.size := by have := ba.size; omega
  replace C5 := C5.keep ba (by omega)
  replace z5 : V5.heap.size + 1 ≤ (V10.alloc (.cells #[.bool hn, .string hi, .string hf] 23)).heap.size := by have := ba.size; omega
  replace C6 := C6.keep ba (by omega)
  replace z6 : V6.heap.size + 1 ≤ (V10.alloc (.cells #[.bool hn, .string hi, .string hf] 23)).heap.size := by have := ba.size; omega
  replace C7 := C7.keep ba (by omega)
  replace z7 : V7.heap.size + 1 ≤ (V10.alloc (.cells #[.bool hn, .string hi, .string hf] 23)).heap.size := by have := ba.size; omega
  replace C8 := C8.keep ba (by omega)
  replace z8 : V8.heap.size + 1 ≤ (V10.alloc (.cells #[.bool hn, .string hi, .string hf] 23)).heap.size := by have := ba.size; omega
  replace C9 := C9.keep ba (by omega)
  replace z9 : V9.heap.size + 1 ≤ (V10.alloc (.cells #[.bool hn, .string hi, .string hf] 23)).heap.size := by have := ba.size; omega
  replace HB := Lib.hid (HB.out.trans (ba.mono HB.out.size))
  clear ba
  have C10 : Cells3 (V10.alloc (.cells #[.bool hn, .string hi, .string hf] 23)) V10.heap.size (.bool hn) (.string hi) (.string hf) := (one_box V10 _ _ _ _).2.1
  have z10 : V10.heap.size + 1 ≤ (V10.alloc (.cells #[.bool hn, .string hi, .string hf] 23)).heap.size := by simp
  have o00 := C0.1
  have o10 := C1.1
  have o20 := C2.1
  have o50 := C5.1
  have o60 := C6.1
  have o70 := C7.1
  have o80 := C8.1
  have o90 := C9.1
  have o100 := C10.1
  have o01 := C0.2.1
  have o02 := C0.2.2
  have o11 := C1.2.1
  have o12 := C1.2.2
  have o21 := C2.2.1
  have o22 := C2.2.2
  have o51 := C5.2.1
  have o52 := C5.2.2
  have o61 := C6.2.1
  have o62 := C6.2.2
  have o71 := C7.2.1
  have o72 := C7.2.2
  have o81 := C8.2.1
  have o82 := C8.2.2
  have o91 := C9.2.1
  have o92 := C9.2.2
  have o101 := C10.2.1
  have o102 := C10.2.2
  clear o20 o21 o22
  clear o50 o51 o52
  clear o60 o61 o62
  clear o70 o71 o72
  clear o80 o81 o82
  clear o90 o91 o92
  cases k7 : (e8 == 0) with
  | false =>
    have k8 : (e8 != 0) = true := by rw [bne, k7]; rfl
    go_wp2
    go_ret
    exact ⟨rfl, HB.out⟩
  | true =>
    have k8 : (e8 != 0) = false := by rw [bne, k7]; rfl
    obtain ⟨zn, zi, zf, m, K1, K2⟩ := DZ.out (by simpa using k7)
    have DA := Lib.hid K1
    have DG := Lib.hid K2
    clear K1 K2
    go_wp2_with fail
    clear o00 o01 o02 o10 o11 o12 o100 o101 o102
    obtain ⟨V10x, hV10x⟩ : ∃ V10x, V10x = V10.alloc (.cells #[.bool hn, .string hi, .string hf] 23) := ⟨_, rfl⟩
    have HX := Lib.hid (show V10.heap.size + 1 = V10x.heap.size by rw [hV10x]; simp)
    rw [← hV10x]
    rw [← hV10x] at HB C0 z0 C1 z1 C10 z10
    clear hV10x
    (with_reducible refine (DA.out _).mono ?_)
    rintro e V11 ⟨rfl, hb⟩
    replace C0 := C0.keep hb (by omega)
    replace z0 : w.heap.size + 1 ≤ V11.heap.size := by have := hb.size; omega
    replace C1 := C1.keep hb (by omega)
    replace z1 : (w.heap.size + 1) + 1 ≤ V11.heap.size := by have := hb.size; omega
    replace C10 := C10.keep hb (by omega)
    replace z10 : V10.heap.size + 1 ≤ V11.heap.size := by have := hb.size; omega
    replace HB := Lib.hid (HB.out.trans (hb.mono HB.out.size))
    clear hb
    have ba : Below V11.heap.size V11 (V11.alloc (.cells #[.bool zn, .string zi, .string zf] 23)) := (Below.refl _ _).alloc (Nat.le_refl _) _
    replace C0 := C0.keep ba (by omega)
    replace z0 : w.heap.size + 1 ≤ (V11.alloc (.cells #[.bool zn, .string zi, .string zf] 23)).heap.size := by have := ba.size; omega
    replace C1 := C1.keep ba (by omega)
    replace z1 : (w.heap.size + 1) + 1 ≤ (V11.alloc (.cells #[.bool zn, .string zi, .string zf] 23)).heap.size := by have := ba.size; omega
    replace C10 := C10.keep ba (by omega)
    replace z10 : V10.heap.size + 1 ≤ (V11.alloc (.cells #[.bool zn, .string zi, .string zf] 23)).heap.size := by have := ba.size; omega
    replace HB := Lib.hid (HB.out.trans (ba.mono HB.out.size))
    clear ba
    have C11 : Cells3 (V11.alloc (.cells #[.bool zn, .string zi, .string zf] 23)) V11.heap.size (.bool zn) (.string zi) (.string zf) := (one_box V11 _ _ _ _).2.1
    have z11 : V11.heap.size + 1 ≤ (V11.alloc (.cells #[.bool zn, .string zi, .string zf] 23)).heap.size := by simp
    have o00 := C0.1
    have o10 := C1.1
    have o100 := C10.1
    have o110 := C11.1
    have o01 := C0.2.1
    have o02 := C0.2.2
    have o11 := C1.2.1
    have o12 := C1.2.2
    have o101 := C10.2.1
    have o102 := C10.2.2
    have o111 := C11.2.1
    have o112 := C11.2.2
    cases k9 : (m == 0) with
    | false =>
      have k10 : (m != 0) = true := by rw [bne, k9]; rfl
      go_wp2
      go_ret
      exact ⟨rfl, HB.out⟩
    | true =>
      have k10 : (m != 0) = false := by rw [bne, k9]; rfl
      have DG2 := Lib.hid (DG.out (by simpa using k9))
      clear DG
      go_wp2_with fail
      clear o00 o01 o02 o10 o11 o12 o100 o101 o102 o110 o111 o112
      obtain ⟨V11x, hV11x⟩ : ∃ V11x, V11x = V11.alloc (.cells #[.bool zn, .string zi, .string zf] 23) := ⟨_, rfl⟩
      have HX := Lib.hid (show V11.heap.size + 1 = V11x.heap.size by rw [hV11x]; simp)
      rw [← hV11x]
      rw [← hV11x] at HB C0 z0 C1 z1 C10 z10 C11 z11
      clear hV11x
      (with_reducible refine (DG2.out _).mono ?_)
      rintro e V12 ⟨rfl, hb⟩
      replace C0 := C0.keep hb (by omega)
      replace z0 : w.heap.size + 1 ≤ V12.heap.size := by have := hb.size; omega
      replace C1 := C1.keep hb (by omega)
      replace z1 : (w.heap.size + 1) + 1 ≤ V12.heap.size := by have := hb.size; omega
      replace C10 := C10.keep hb (by omega)
      replace z10 : V10.heap.size + 1 ≤ V12.heap.size := by have := hb.size; omega
      replace C11 := C11.keep hb (by omega)
      replace z11 : V11.heap.size + 1 ≤ V12.heap.size := by have := hb.size; omega
      replace HB := Lib.hid (HB.out.trans (hb.mono HB.out.size))
      clear hb
      have o00 := C0.1
      have o10 := C1.1
      have o100 := C10.1
      have o110 := C11.1
      have o01 := C0.2.1
      have o02 := C0.2.2
      have o11 := C1.2.1
      have o12 := C1.2.2
      have o101 := C10.2.1
      have o102 := C10.2.2
      have o111 := C11.2.1
      have o112 := C11.2.2
      go_wp2
      go_ret
      exact ⟨rfl, HB.out⟩
end Go.Proofs.Ytohppejblbeemaa
