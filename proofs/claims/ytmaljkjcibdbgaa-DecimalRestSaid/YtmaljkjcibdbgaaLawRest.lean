/- DecimalRest, step by step. -/
import Derived.Test.YtmaljkjcibdbgaaDFine
import Derived.Deep.DeepCutAuto
namespace Go.Proofs.Ytmaljkjcibdbgaa
open Go.RowKit

theorem Cells3.at_ {W w' : World} {b B : Nat} {x0 x1 x2 : Value} (h : Cells3 W b x0 x1 x2) (hb : Below B W w') (hlt : b < B) : Cells3 w' b x0 x1 x2 :=
  ⟨(hb.cell (p := ⟨b, 0, none⟩) hlt).trans h.1, (hb.cell (p := ⟨b, 1, none⟩) hlt).trans h.2.1, (hb.cell (p := ⟨b, 2, none⟩) hlt).trans h.2.2⟩
/-- Two boxes that are made in one statement, whichever first. -/
def Pair (V wx : World) (p q : Nat) (x0 x1 x2 y0 y1 y2 : Value) : Prop :=
  V.heap.size ≤ p ∧ V.heap.size ≤ q ∧ p ≠ q ∧ Cells3 wx p x0 x1 x2 ∧ Cells3 wx q y0 y1 y2 ∧ (∀ i, wx.frozen? ⟨p, i, none⟩ = false) ∧ (∀ i, wx.frozen? ⟨q, i, none⟩ = false) ∧ Below V.heap.size V wx ∧ p < wx.heap.size ∧ q < wx.heap.size
theorem pair_made (V : World) (x0 x1 x2 y0 y1 y2 : Value) (t : TypeId) : Pair V (((V.alloc (.cells #[x0, x1, x2] t)).alloc (.cells #[y0, y1, y2] t)).drew) V.heap.size (V.heap.size + 1) x0 x1 x2 y0 y1 y2 := by
  obtain ⟨h1, h2, h3, h4⟩ := two_boxes V x0 x1 x2 y0 y1 y2 t
  obtain ⟨g1, g2, g3⟩ := one_box V x0 x1 x2 t
  have hb : Below (V.alloc (.cells #[x0, x1, x2] t)).heap.size (V.alloc (.cells #[x0, x1, x2] t)) ((V.alloc (.cells #[x0, x1, x2] t)).alloc (.cells #[y0, y1, y2] t)) := (Below.refl _ _).alloc (Nat.le_refl _) _
  have h5 := frozen_keep g3 hb (by omega)
  exact ⟨Nat.le_refl _, Nat.le_succ _, by omega, h2, h3, fun i => h5 i, fun i => h4 i, drew1 (below_two V _ _), (by omega : V.heap.size < ((V.alloc (.cells #[x0, x1, x2] t)).alloc (.cells #[y0, y1, y2] t)).heap.size), (by omega : V.heap.size + 1 < ((V.alloc (.cells #[x0, x1, x2] t)).alloc (.cells #[y0, y1, y2] t)).heap.size)⟩
theorem Pair.swap {V wx : World} {p q : Nat} {x0 x1 x2 y0 y1 y2 : Value} (h : Pair V wx p q x0 x1 x2 y0 y1 y2) : Pair V wx q p y0 y1 y2 x0 x1 x2 := by
  obtain ⟨h1, h2, h3, h4, h5, h6, h7, h8, h9, h10⟩ := h
  exact ⟨h2, h1, fun e => h3 e.symm, h5, h4, h7, h6, h8, h10, h9⟩

set_option maxHeartbeats 8000000 in
set_option maxRecDepth 100000 in
theorem rest_core (an bn mn qn cn dn : Bool) (ai af bi bf mi mf qi qf ci cf di df : ByteArray) (n k e2 e5 e6 : Int) (w : World) (H1 : (∀ wx : World, Calls Try.prog 27 #[(.agg #[.bool an, .string ai, .string af]), (.agg #[.bool bn, .string bi, .string bf])] wx fun e w' => e = .returned (.tuple #[(.agg #[.bool mn, .string mi, .string mf]), .int .i64 0]) ∧ Below wx.heap.size wx w')) (HF : ∀ (g : Nat) (wx : World), g = wx.heap.size → Calls Try.prog 29 #[.slice (some ⟨g, 0, none⟩) 3 3] (wx.alloc (.cells #[.bool an, .string ai, .string af, .bool bn, .string bi, .string bf, .bool mn, .string mi, .string mf] 23)) fun e w' => e = .returned (.bool true) ∧ Below wx.heap.size wx w') (H2 : (∀ wx : World, Calls Try.prog 16 #[(.agg #[.bool false, .string mi, .string mf]), (.agg #[.bool false, .string bi, .string bf])] wx fun e w' => e = .returned (.tuple #[.int .i64 k, .int .i64 0]) ∧ Below wx.heap.size wx w')) (HG : mn = false → an = true → (∀ wx : World, Calls Try.prog 30 #[(.agg #[.bool mn, .string mi, .string mf]), (.agg #[.bool false, .string ⟨#[48]⟩, .string ⟨#[]⟩])] wx fun e w' => e = .returned (.bool true) ∧ Below wx.heap.size wx w')) (H3 : (∀ wx : World, Calls Try.prog 25 #[(.agg #[.bool an, .string ai, .string af]), (.agg #[.bool bn, .string bi, .string bf])] wx fun e w' => e = .returned (.tuple #[(.agg #[.bool qn, .string qi, .string qf]), .int .i64 e2]) ∧ Below wx.heap.size wx w')) (HQ : e2 = 0 → qf = ⟨#[]⟩ ∧ (∀ (g : Nat) (wx : World), g = wx.heap.size → Calls Try.prog 29 #[.slice (some ⟨g, 0, none⟩) 1 1] (wx.alloc (.cells #[.bool qn, .string qi, .string qf] 23)) fun e w' => e = .returned (.bool true) ∧ Below wx.heap.size wx w') ∧ ∃ (pn : Bool) (pi pf : ByteArray) (e3 : Int), (∀ wx : World, Calls Try.prog 23 #[(.agg #[.bool qn, .string qi, .string qf]), (.agg #[.bool bn, .string bi, .string bf])] wx fun e w' => e = .returned (.tuple #[(.agg #[.bool pn, .string pi, .string pf]), .int .i64 e3]) ∧ Below wx.heap.size wx w') ∧ (e3 = 0 → ∃ (sn : Bool) (si sf : ByteArray) (e4 : Int), (∀ wx : World, Calls Try.prog 18 #[(.agg #[.bool pn, .string pi, .string pf]), (.agg #[.bool mn, .string mi, .string mf])] wx fun e w' => e = .returned (.tuple #[(.agg #[.bool sn, .string si, .string sf]), .int .i64 e4]) ∧ Below wx.heap.size wx w') ∧ (e4 = 0 → (∀ wx : World, Calls Try.prog 30 #[(.agg #[.bool sn, .string si, .string sf]), (.agg #[.bool an, .string ai, .string af])] wx fun e w' => e = .returned (.bool true) ∧ Below wx.heap.size wx w')))) (H5 : (∀ wx : World, Calls Try.prog 31 #[(.agg #[.bool an, .string ai, .string af]), .int .i64 n] wx fun e w' => e = .returned (.tuple #[(.agg #[.bool cn, .string ci, .string cf]), .int .i64 e5]) ∧ Below wx.heap.size wx w')) (H6 : (∀ wx : World, Calls Try.prog 31 #[(.agg #[.bool bn, .string bi, .string bf]), .int .i64 n] wx fun e w' => e = .returned (.tuple #[(.agg #[.bool dn, .string di, .string df]), .int .i64 e6]) ∧ Below wx.heap.size wx w')) (HU : e5 = 0 → e6 = 0 → ∃ (un : Bool) (ui uf : ByteArray) (vn : Bool) (vi vf : ByteArray) (e8 : Int), (∀ wx : World, Calls Try.prog 27 #[(.agg #[.bool cn, .string ci, .string cf]), (.agg #[.bool dn, .string di, .string df])] wx fun e w' => e = .returned (.tuple #[(.agg #[.bool un, .string ui, .string uf]), .int .i64 0]) ∧ Below wx.heap.size wx w') ∧ (∀ wx : World, Calls Try.prog 31 #[(.agg #[.bool mn, .string mi, .string mf]), .int .i64 n] wx fun e w' => e = .returned (.tuple #[(.agg #[.bool vn, .string vi, .string vf]), .int .i64 e8]) ∧ Below wx.heap.size wx w') ∧ (e8 = 0 → (∀ wx : World, Calls Try.prog 30 #[(.agg #[.bool un, .string ui, .string uf]), (.agg #[.bool vn, .string vi, .string vf])] wx fun e w' => e = .returned (.bool true) ∧ Below wx.heap.size wx w'))) (gk : k < 0) (gs : mn = true → an = true) (gl : mf.size = max af.size bf.size) :
    Calls Try.prog 6 #[(.agg #[.bool an, .string ai, .string af]), (.agg #[.bool bn, .string bi, .string bf]), .int .i64 n] w fun e w' => e = .returned (.bool true) ∧ Below w.heap.size w w' := by
  have DW := Lib.hid awake_any
  have D1 := Lib.hid H1
  have DF := Lib.hid HF
  have D2 := Lib.hid H2
  have DG := Lib.hid HG
  have D3 := Lib.hid H3
  have DQ := Lib.hid HQ
  have D5 := Lib.hid H5
  have D6 := Lib.hid H6
  have DU := Lib.hid HU
  clear H1 HF H2 HG H3 HQ H5 H6 HU
  have GS := Lib.hid gs
  clear gs
  have GL := Lib.hid gl
  have ql : ((mf.size : Int) != if af.size < bf.size then (bf.size : Int) else (af.size : Int)) = false := by rw [gl, bne_eq_false_iff_eq]; split <;> omega
  clear gl
  have qk : decide (0 ≤ k) = false := decide_eq_false (by omega)
  go_enter Try.func6, Try.ntmps6
  go_wp2_with fail
  obtain ⟨W0, hW0⟩ : ∃ W0, W0 = ((w.alloc (.cells #[.bool an, .string ai, .string af] 23)).alloc (.cells #[.bool bn, .string bi, .string bf] 23)) := ⟨_, rfl⟩
  obtain ⟨hB, hz, C0, C1, _⟩ : Below w.heap.size w W0 ∧ w.heap.size + 2 ≤ W0.heap.size ∧ Cells3 W0 w.heap.size (.bool an) (.string ai) (.string af) ∧ Cells3 W0 (w.heap.size + 1) (.bool bn) (.string bi) (.string bf) ∧ ∀ i, W0.frozen? ⟨(w.heap.size + 1), i, none⟩ = false := by rw [hW0]; exact ⟨below_two w _ _, two_boxes w _ _ _ _ _ _ _⟩
  have z0 : w.heap.size + 1 ≤ W0.heap.size := by omega
  have z1 : (w.heap.size + 1) + 1 ≤ W0.heap.size := by omega
  rw [← hW0]
  have HB := Lib.hid hB
  clear hW0 hB hz
  (with_reducible refine (DW.out _).mono ?_)
  rintro e V1 ⟨rfl, hb⟩
  replace C0 := C0.keep hb (by omega)
  replace z0 : w.heap.size + 1 ≤ V1.heap.size := by have := hb.size; omega
  replace C1 := C1.keep hb (by omega)
  replace z1 : (w.heap.size + 1) + 1 ≤ V1.heap.size := by have := hb.size; omega
  replace HB := Lib.hid (HB.out.trans (hb.mono HB.out.size))
  clear hb
  have o00 := C0.1
  have o10 := C1.1
  have o01 := C0.2.1
  have o02 := C0.2.2
  have o11 := C1.2.1
  have o12 := C1.2.2
  go_wp2_with fail
  clear o00 o01 o02 o10 o11 o12
  (with_reducible refine (D1.out _).mono ?_)
  rintro e V2 ⟨rfl, hb⟩
  replace C0 := C0.keep hb (by omega)
  replace z0 : w.heap.size + 1 ≤ V2.heap.size := by have := hb.size; omega
  replace C1 := C1.keep hb (by omega)
  replace z1 : (w.heap.size + 1) + 1 ≤ V2.heap.size := by have := hb.size; omega
  replace HB := Lib.hid (HB.out.trans (hb.mono HB.out.size))
  clear hb
  have ba : Below V2.heap.size V2 (V2.alloc (.cells #[.bool mn, .string mi, .string mf] 23)) := (Below.refl _ _).alloc (Nat.le_refl _) _
  replace C0 := C0.keep ba (by omega)
  replace z0 : w.heap.size + 1 ≤ (V2.alloc (.cells #[.bool mn, .string mi, .string mf] 23)).heap.size := by have := ba.size; omega
  replace C1 := C1.keep ba (by omega)
  replace z1 : (w.heap.size + 1) + 1 ≤ (V2.alloc (.cells #[.bool mn, .string mi, .string mf] 23)).heap.size := by have := ba.size; omega
  replace HB := Lib.hid (HB.out.trans (ba.mono HB.out.size))
  clear ba
  have C2 : Cells3 (V2.alloc (.cells #[.bool mn, .string mi, .string mf] 23)) V2.heap.size (.bool mn) (.string mi) (.string mf) := (one_box V2 _ _ _ _).2.1
  have z2 : V2.heap.size + 1 ≤ (V2.alloc (.cells #[.bool mn, .string mi, .string mf] 23)).heap.size := by simp
  have o00 := C0.1
  have o10 := C1.1
  have o20 := C2.1
  have o01 := C0.2.1
  have o02 := C0.2.2
  have o11 := C1.2.1
  have o12 := C1.2.2
  have o21 := C2.2.1
  have o22 := C2.2.2
  go_wp2_with fail
  clear o00 o01 o02 o10 o11 o12 o20 o21 o22
  obtain ⟨V2x, hV2x⟩ : ∃ V2x, V2x = V2.alloc (.cells #[.bool mn, .string mi, .string mf] 23) := ⟨_, rfl⟩
  have HX := Lib.hid (show V2.heap.size + 1 = V2x.heap.size by rw [hV2x]; simp)
  rw [← hV2x]
  rw [← hV2x] at HB C0 z0 C1 z1 C2 z2
  clear hV2x
  (with_reducible refine (DF.out _ _ ?_).mono ?_)
  · exact HX.out
  rintro e V3 ⟨rfl, hb⟩
  replace C0 := C0.keep hb (by omega)
  replace z0 : w.heap.size + 1 ≤ V3.heap.size := by have := hb.size; omega
  replace C1 := C1.keep hb (by omega)
  replace z1 : (w.heap.size + 1) + 1 ≤ V3.heap.size := by have := hb.size; omega
  replace C2 := C2.keep hb (by omega)
  replace z2 : V2.heap.size + 1 ≤ V3.heap.size := by have := hb.size; omega
  replace HB := Lib.hid (HB.out.trans (hb.mono HB.out.size))
  clear hb
  have o00 := C0.1
  have o10 := C1.1
  have o20 := C2.1
  have o01 := C0.2.1
  have o02 := C0.2.2
  have o11 := C1.2.1
  have o12 := C1.2.2
  have o21 := C2.2.1
  have o22 := C2.2.2
  have y1 : w.heap.size + 1 < V3.heap.size := z1
  have y2 : V2.heap.size < V3.heap.size := z2
  have y3 : w.heap.size + 1 ≠ V3.heap.size := by omega
  have y4 : V2.heap.size ≠ V3.heap.size := by omega
  have y5 : w.heap.size + 1 ≠ V3.heap.size + 1 := by omega
  have y6 : V2.heap.size ≠ V3.heap.size + 1 := by omega
  have y7 : w.heap.size + 1 < V3.heap.size + 1 := by omega
  have y8 : V2.heap.size < V3.heap.size + 1 := by omega
  go_upto_region 8 with fail
  go_cut [9, 10] (fun x y wx => ∃ p q : Nat, x = .pointer (some ⟨p, 0, none⟩) ∧ y = .pointer (some ⟨q, 0, none⟩) ∧ Pair V3 wx p q (.bool mn) (.string mi) (.string mf) (.bool bn) (.string bi) (.string bf))
  case first =>
    go_region
    · go_wp2 <;> (go_meet; exact ⟨_, _, rfl, rfl, pair_made _ _ _ _ _ _ _ _⟩)
    · go_wp2 <;> (go_meet; exact ⟨_, _, rfl, rfl, (pair_made _ _ _ _ _ _ _ _).swap⟩)
  case rest =>
  clear y1 y2 y3 y4 y5 y6 y7 y8
  clear o00 o01 o02 o10 o11 o12 o20 o21 o22
  obtain ⟨p, q, rfl, rfl, hp, hq, hpq, ⟨p0, p1, p2⟩, ⟨q0, q1, q2⟩, fp, fq, hbw, lp, lq⟩ := hcut
  have hqp : q ≠ p := fun e => hpq e.symm
  have HBW := Lib.hid hbw
  have HP := Lib.hid hp
  have HQL := Lib.hid hq
  clear hbw hp hq
  go_wp2_with fail
  obtain ⟨W4, hW4⟩ : ∃ W4, W4 = (wc.setCell ⟨p, 0, none⟩ (.bool false)).setCell ⟨q, 0, none⟩ (.bool false) := ⟨_, rfl⟩
  have h4 : Below V3.heap.size V3 W4 := by rw [hW4]; exact (HBW.out.setCell (p := ⟨p, 0, none⟩) HP.out _).setCell (p := ⟨q, 0, none⟩) HQL.out _
  rw [← hW4]
  clear hW4 p0 p1 p2 q0 q1 q2 fp fq lp lq hpq hqp
  (with_reducible refine (D2.out _).mono ?_)
  rintro e V4 ⟨rfl, hb⟩
  have hx : Below V3.heap.size V3 V4 := h4.trans (hb.mono h4.size)
  clear hb h4
  replace C0 := C0.keep hx (by omega)
  replace z0 : w.heap.size + 1 ≤ V4.heap.size := by have := hx.size; omega
  replace C1 := C1.keep hx (by omega)
  replace z1 : (w.heap.size + 1) + 1 ≤ V4.heap.size := by have := hx.size; omega
  replace C2 := C2.keep hx (by omega)
  replace z2 : V2.heap.size + 1 ≤ V4.heap.size := by have := hx.size; omega
  replace HB := Lib.hid (HB.out.trans (hx.mono HB.out.size))
  clear hx
  have o00 := C0.1
  have o10 := C1.1
  have o20 := C2.1
  have o01 := C0.2.1
  have o02 := C0.2.2
  have o11 := C1.2.1
  have o12 := C1.2.2
  have o21 := C2.2.1
  have o22 := C2.2.2
  go_upto_region 11 with fail
  go_cut [96] (fun sx wx => sx = .bool false ∧ Below V4.heap.size V4 wx)
  case first =>
    cases mn with
    | true =>
      obtain rfl := GS.out rfl
      go_wp2_with fail; go_meet; exact ⟨rfl, Below.refl _ _⟩
    | false =>
      cases an with
      | false => go_wp2_with fail; go_meet; exact ⟨rfl, Below.refl _ _⟩
      | true =>
        have DG2 := Lib.hid (DG.out rfl rfl)
        go_wp2_with fail
        (with_reducible refine (DG2.out _).mono ?_)
        rintro e V5 ⟨rfl, hb⟩
        go_wp2_with fail; go_meet; exact ⟨rfl, hb⟩
  case rest =>
  clear o00 o01 o02 o10 o11 o12 o20 o21 o22
  obtain ⟨rfl, hb5⟩ := hcut
  replace C0 := C0.keep hb5 (by omega)
  replace z0 : w.heap.size + 1 ≤ wc.heap.size := by have := hb5.size; omega
  replace C1 := C1.keep hb5 (by omega)
  replace z1 : (w.heap.size + 1) + 1 ≤ wc.heap.size := by have := hb5.size; omega
  replace C2 := C2.keep hb5 (by omega)
  replace z2 : V2.heap.size + 1 ≤ wc.heap.size := by have := hb5.size; omega
  replace HB := Lib.hid (HB.out.trans (hb5.mono HB.out.size))
  clear hb5
  have o00 := C0.1
  have o10 := C1.1
  have o20 := C2.1
  have o01 := C0.2.1
  have o02 := C0.2.2
  have o11 := C1.2.1
  have o12 := C1.2.2
  have o21 := C2.2.1
  have o22 := C2.2.2
  go_wp2_with fail
  clear o00 o01 o02 o10 o11 o12 o20 o21 o22
  (with_reducible refine (D3.out _).mono ?_)
  rintro e V7 ⟨rfl, hb⟩
  replace C0 := C0.keep hb (by omega)
  replace z0 : w.heap.size + 1 ≤ V7.heap.size := by have := hb.size; omega
  replace C1 := C1.keep hb (by omega)
  replace z1 : (w.heap.size + 1) + 1 ≤ V7.heap.size := by have := hb.size; omega
  replace C2 := C2.keep hb (by omega)
  replace z2 : V2.heap.size + 1 ≤ V7.heap.size := by have := hb.size; omega
  replace HB := Lib.hid (HB.out.trans (hb.mono HB.out.size))
  clear hb
  have ba : Below V7.heap.size V7 (V7.alloc (.cells #[.bool qn, .string qi, .string qf] 23)) := (Below.refl _ _).alloc (Nat.le_refl _) _
  replace C0 := C0.keep ba (by omega)
  replace z0 : w.heap.size + 1 ≤ (V7.alloc (.cells #[.bool qn, .string qi, .string qf] 23)).heap.size := by have := ba.size; omega
  replace C1 := C1.keep ba (by omega)
  replace z1 : (w.heap.size + 1) + 1 ≤ (V7.alloc (.cells #[.bool qn, .string qi, .string qf] 23)).heap.size := by have := ba.size; omega
  replace C2 := C2.keep ba (by omega)
  replace z2 : V2.heap.size + 1 ≤ (V7.alloc (.cells #[.bool qn, .string qi, .string qf] 23)).heap.size := by have := ba.size; omega
  replace HB := Lib.hid (HB.out.trans (ba.mono HB.out.size))
  clear ba
  have C3 : Cells3 (V7.alloc (.cells #[.bool qn, .string qi, .string qf] 23)) V7.heap.size (.bool qn) (.string qi) (.string qf) := (one_box V7 _ _ _ _).2.1
  have z3 : V7.heap.size + 1 ≤ (V7.alloc (.cells #[.bool qn, .string qi, .string qf] 23)).heap.size := by simp
  have o00 := C0.1
  have o10 := C1.1
  have o20 := C2.1
  have o30 := C3.1
  have o01 := C0.2.1
  have o02 := C0.2.2
  have o11 := C1.2.1
  have o12 := C1.2.2
  have o21 := C2.2.1
  have o22 := C2.2.2
  have o31 := C3.2.1
  have o32 := C3.2.2
  go_upto_if 104 with fail
  clear o00 o01 o02 o10 o11 o12 o20 o21 o22 o30 o31 o32
  obtain ⟨V7x, hV7x⟩ : ∃ V7x, V7x = V7.alloc (.cells #[.bool qn, .string qi, .string qf] 23) := ⟨_, rfl⟩
  have HX := Lib.hid (show V7.heap.size + 1 = V7x.heap.size by rw [hV7x]; simp)
  rw [← hV7x]
  rw [← hV7x] at HB C0 z0 C1 z1 C2 z2 C3 z3
  clear hV7x
  go_cut [] (fun wx => Below V7x.heap.size V7x wx)
  case first =>
    replace HB := Lib.hid (Below.refl V7x.heap.size V7x)
    cases k5 : (e2 == 0) with
    | false => go_wp2_with fail; go_meet; exact HB.out
    | true =>
      obtain ⟨K1, K2, pn, pi, pf, e3, K3, K4⟩ := DQ.out (by simpa using k5)
      subst K1
      have DA := Lib.hid K2
      have DP := Lib.hid K3
      have DR := Lib.hid K4
      clear K2 K3 K4
      have o00 := C0.1
      have o10 := C1.1
      have o20 := C2.1
      have o30 := C3.1
      have o01 := C0.2.1
      have o02 := C0.2.2
      have o11 := C1.2.1
      have o12 := C1.2.2
      have o21 := C2.2.1
      have o22 := C2.2.2
      have o31 := C3.2.1
      have o32 := C3.2.2
      -- fine of the quotient
      go_wp2_with fail
      clear o00 o01 o02 o10 o11 o12 o20 o21 o22 o30 o31 o32
      (with_reducible refine (DA.out _ _ ?_).mono ?_)
      · first | exact HX.out | rfl
      rintro e V8 ⟨rfl, hb⟩
      replace C0 := C0.keep hb (by omega)
      replace z0 : w.heap.size + 1 ≤ V8.heap.size := by have := hb.size; omega
      replace C1 := C1.keep hb (by omega)
      replace z1 : (w.heap.size + 1) + 1 ≤ V8.heap.size := by have := hb.size; omega
      replace C2 := C2.keep hb (by omega)
      replace z2 : V2.heap.size + 1 ≤ V8.heap.size := by have := hb.size; omega
      replace C3 := C3.keep hb (by omega)
      replace z3 : V7.heap.size + 1 ≤ V8.heap.size := by have := hb.size; omega
      replace HB := Lib.hid (HB.out.trans (hb.mono HB.out.size))
      clear hb
      have o00 := C0.1
      have o10 := C1.1
      have o20 := C2.1
      have o30 := C3.1
      have o01 := C0.2.1
      have o02 := C0.2.2
      have o11 := C1.2.1
      have o12 := C1.2.2
      have o21 := C2.2.1
      have o22 := C2.2.2
      have o31 := C3.2.1
      have o32 := C3.2.2
      go_wp2_with fail
      clear o00 o01 o02 o10 o11 o12 o20 o21 o22 o30 o31 o32
      (with_reducible refine (DP.out _).mono ?_)
      rintro e V9 ⟨rfl, hb⟩
      replace C0 := C0.keep hb (by omega)
      replace z0 : w.heap.size + 1 ≤ V9.heap.size := by have := hb.size; omega
      replace C1 := C1.keep hb (by omega)
      replace z1 : (w.heap.size + 1) + 1 ≤ V9.heap.size := by have := hb.size; omega
      replace C2 := C2.keep hb (by omega)
      replace z2 : V2.heap.size + 1 ≤ V9.heap.size := by have := hb.size; omega
      replace C3 := C3.keep hb (by omega)
      replace z3 : V7.heap.size + 1 ≤ V9.heap.size := by have := hb.size; omega
      replace HB := Lib.hid (HB.out.trans (hb.mono HB.out.size))
      clear hb
      have ba : Below V9.heap.size V9 (V9.alloc (.cells #[.bool pn, .string pi, .string pf] 23)) := (Below.refl _ _).alloc (Nat.le_refl _) _
      replace C0 := C0.keep ba (by omega)
      replace z0 : w.heap.size + 1 ≤ (V9.alloc (.cells #[.bool pn, .string pi, .string pf] 23)).heap.size := by have := ba.size; omega
      replace C1 := C1.keep ba (by omega)
      replace z1 : (w.heap.size + 1) + 1 ≤ (V9.alloc (.cells #[.bool pn, .string pi, .string pf] 23)).heap.size := by have := ba.size; omega
      replace C2 := C2.keep ba (by omega)
      replace z2 : V2.heap.size + 1 ≤ (V9.alloc (.cells #[.bool pn, .string pi, .string pf] 23)).heap.size := by have := ba.size; omega
      replace C3 := C3.keep ba (by omega)
      replace z3 : V7.heap.size + 1 ≤ (V9.alloc (.cells #[.bool pn, .string pi, .string pf] 23)).heap.size := by have := ba.size; omega
      replace HB := Lib.hid (HB.out.trans (ba.mono HB.out.size))
      clear ba
      have C4 : Cells3 (V9.alloc (.cells #[.bool pn, .string pi, .string pf] 23)) V9.heap.size (.bool pn) (.string pi) (.string pf) := (one_box V9 _ _ _ _).2.1
      have z4 : V9.heap.size + 1 ≤ (V9.alloc (.cells #[.bool pn, .string pi, .string pf] 23)).heap.size := by simp
      have o00 := C0.1
      have o10 := C1.1
      have o20 := C2.1
      have o30 := C3.1
      have o40 := C4.1
      have o01 := C0.2.1
      have o02 := C0.2.2
      have o11 := C1.2.1
      have o12 := C1.2.2
      have o21 := C2.2.1
      have o22 := C2.2.2
      have o31 := C3.2.1
      have o32 := C3.2.2
      have o41 := C4.2.1
      have o42 := C4.2.2
      cases k6 : (e3 == 0) with
      | false => go_wp2_with fail; go_meet; exact HB.out
      | true =>
        obtain ⟨sn, si, sf, e4, K1, K2⟩ := DR.out (by simpa using k6)
        have DS := Lib.hid K1
        have DT := Lib.hid K2
        clear K1 K2 DR
        go_wp2_with fail
        clear o00 o01 o02 o10 o11 o12 o20 o21 o22 o30 o31 o32 o40 o41 o42
        obtain ⟨V9x, hV9x⟩ : ∃ V9x, V9x = V9.alloc (.cells #[.bool pn, .string pi, .string pf] 23) := ⟨_, rfl⟩
        have HX := Lib.hid (show V9.heap.size + 1 = V9x.heap.size by rw [hV9x]; simp)
        rw [← hV9x]
        rw [← hV9x] at HB C0 z0 C1 z1 C2 z2 C3 z3 C4 z4
        clear hV9x
        (with_reducible refine (DS.out _).mono ?_)
        rintro e V10 ⟨rfl, hb⟩
        replace C0 := C0.keep hb (by omega)
        replace z0 : w.heap.size + 1 ≤ V10.heap.size := by have := hb.size; omega
        replace C1 := C1.keep hb (by omega)
        replace z1 : (w.heap.size + 1) + 1 ≤ V10.heap.size := by have := hb.size; omega
        replace C2 := C2.keep hb (by omega)
        replace z2 : V2.heap.size + 1 ≤ V10.heap.size := by have := hb.size; omega
        replace C3 := C3.keep hb (by omega)
        replace z3 : V7.heap.size + 1 ≤ V10.heap.size := by have := hb.size; omega
        replace C4 := C4.keep hb (by omega)
        replace z4 : V9.heap.size + 1 ≤ V10.heap.size := by have := hb.size; omega
        replace HB := Lib.hid (HB.out.trans (hb.mono HB.out.size))
        clear hb
        have ba : Below V10.heap.size V10 (V10.alloc (.cells #[.bool sn, .string si, .string sf] 23)) := (Below.refl _ _).alloc (Nat.le_refl _) _
        replace C0 := C0.keep ba (by omega)
        replace z0 : w.heap.size + 1 ≤ (V10.alloc (.cells #[.bool sn, .string si, .string sf] 23)).heap.size := by have := ba.size; omega
        replace C1 := C1.keep ba (by omega)
        replace z1 : (w.heap.size + 1) + 1 ≤ (V10.alloc (.cells #[.bool sn, .string si, .string sf] 23)).heap.size := by have := ba.size; omega
        replace C2 := C2.keep ba (by omega)
        replace z2 : V2.heap.size + 1 ≤ (V10.alloc (.cells #[.bool sn, .string si, .string sf] 23)).heap.size := by have := ba.size; omega
        replace C3 := C3.keep ba (by omega)
        replace z3 : V7.heap.size + 1 ≤ (V10.alloc (.cells #[.bool sn, .string si, .string sf] 23)).heap.size := by have := ba.size; omega
        replace C4 := C4.keep ba (by omega)
        replace z4 : V9.heap.size + 1 ≤ (V10.alloc (.cells #[.bool sn, .string si, .string sf] 23)).heap.size := by have := ba.size; omega
        replace HB := Lib.hid (HB.out.trans (ba.mono HB.out.size))
        clear ba
        have C5 : Cells3 (V10.alloc (.cells #[.bool sn, .string si, .string sf] 23)) V10.heap.size (.bool sn) (.string si) (.string sf) := (one_box V10 _ _ _ _).2.1
        have z5 : V10.heap.size + 1 ≤ (V10.alloc (.cells #[.bool sn, .string si, .string sf] 23)).heap.size := by simp
        have o00 := C0.1
        have o10 := C1.1
        have o20 := C2.1
        have o30 := C3.1
        have o40 := C4.1
        have o50 := C5.1
        have o01 := C0.2.1
        have o02 := C0.2.2
        have o11 := C1.2.1
        have o12 := C1.2.2
        have o21 := C2.2.1
        have o22 := C2.2.2
        have o31 := C3.2.1
        have o32 := C3.2.2
        have o41 := C4.2.1
        have o42 := C4.2.2
        have o51 := C5.2.1
        have o52 := C5.2.2
        cases k7 : (e4 == 0) with
        | false => go_wp2_with fail; go_meet; exact HB.out
        | true =>
          have DT2 := Lib.hid (DT.out (by simpa using k7))
          clear DT
          go_wp2_with fail
          clear o00 o01 o02 o10 o11 o12 o20 o21 o22 o30 o31 o32 o40 o41 o42 o50 o51 o52
          obtain ⟨V10x, hV10x⟩ : ∃ V10x, V10x = V10.alloc (.cells #[.bool sn, .string si, .string sf] 23) := ⟨_, rfl⟩
          have HX := Lib.hid (show V10.heap.size + 1 = V10x.heap.size by rw [hV10x]; simp)
          rw [← hV10x]
          rw [← hV10x] at HB C0 z0 C1 z1 C2 z2 C3 z3 C4 z4 C5 z5
          clear hV10x
          (with_reducible refine (DT2.out _).mono ?_)
          rintro e V11 ⟨rfl, hb⟩
          replace C0 := C0.keep hb (by omega)
          replace z0 : w.heap.size + 1 ≤ V11.heap.size := by have := hb.size; omega
          replace C1 := C1.keep hb (by omega)
          replace z1 : (w.heap.size + 1) + 1 ≤ V11.heap.size := by have := hb.size; omega
          replace C2 := C2.keep hb (by omega)
          replace z2 : V2.heap.size + 1 ≤ V11.heap.size := by have := hb.size; omega
          replace C3 := C3.keep hb (by omega)
          replace z3 : V7.heap.size + 1 ≤ V11.heap.size := by have := hb.size; omega
          replace C4 := C4.keep hb (by omega)
          replace z4 : V9.heap.size + 1 ≤ V11.heap.size := by have := hb.size; omega
          replace C5 := C5.keep hb (by omega)
          replace z5 : V10.heap.size + 1 ≤ V11.heap.size := by have := hb.size; omega
          replace HB := Lib.hid (HB.out.trans (hb.mono HB.out.size))
          clear hb
          have o00 := C0.1
          have o10 := C1.1
          have o20 := C2.1
          have o30 := C3.1
          have o40 := C4.1
          have o50 := C5.1
          have o01 := C0.2.1
          have o02 := C0.2.2
          have o11 := C1.2.1
          have o12 := C1.2.2
          have o21 := C2.2.1
          have o22 := C2.2.2
          have o31 := C3.2.1
          have o32 := C3.2.2
          have o41 := C4.2.1
          have o42 := C4.2.2
          have o51 := C5.2.1
          have o52 := C5.2.2
          go_wp2_with fail
          go_meet
          exact HB.out
  case rest =>
  replace C0 := C0.keep hcut (by omega)
  replace z0 : w.heap.size + 1 ≤ wc.heap.size := by have := hcut.size; omega
  replace C1 := C1.keep hcut (by omega)
  replace z1 : (w.heap.size + 1) + 1 ≤ wc.heap.size := by have := hcut.size; omega
  replace C2 := C2.keep hcut (by omega)
  replace z2 : V2.heap.size + 1 ≤ wc.heap.size := by have := hcut.size; omega
  replace C3 := C3.keep hcut (by omega)
  replace z3 : V7.heap.size + 1 ≤ wc.heap.size := by have := hcut.size; omega
  replace HB := Lib.hid (HB.out.trans (hcut.mono HB.out.size))
  clear hcut
  have o00 := C0.1
  have o10 := C1.1
  have o20 := C2.1
  have o01 := C0.2.1
  have o02 := C0.2.2
  have o11 := C1.2.1
  have o12 := C1.2.2
  have o21 := C2.2.1
  have o22 := C2.2.2
  go_wp2_with fail
  clear o00 o01 o02 o10 o11 o12 o20 o21 o22
  (with_reducible refine (D5.out _).mono ?_)
  rintro e V22 ⟨rfl, hb⟩
  replace C0 := C0.keep hb (by omega)
  replace z0 : w.heap.size + 1 ≤ V22.heap.size := by have := hb.size; omega
  replace C1 := C1.keep hb (by omega)
  replace z1 : (w.heap.size + 1) + 1 ≤ V22.heap.size := by have := hb.size; omega
  replace C2 := C2.keep hb (by omega)
  replace z2 : V2.heap.size + 1 ≤ V22.heap.size := by have := hb.size; omega
  replace HB := Lib.hid (HB.out.trans (hb.mono HB.out.size))
  clear hb
  have ba : Below V22.heap.size V22 (V22.alloc (.cells #[.bool cn, .string ci, .string cf] 23)) := (Below.refl _ _).alloc (Nat.le_refl _) _
  replace C0 := C0.keep ba (by omega)
  replace z0 : w.heap.size + 1 ≤ (V22.alloc (.cells #[.bool cn, .string ci, .string cf] 23)).heap.size := by have := ba.size; omega
  replace C1 := C1.keep ba (by omega)
  replace z1 : (w.heap.size + 1) + 1 ≤ (V22.alloc (.cells #[.bool cn, .string ci, .string cf] 23)).heap.size := by have := ba.size; omega
  replace C2 := C2.keep ba (by omega)
  replace z2 : V2.heap.size + 1 ≤ (V22.alloc (.cells #[.bool cn, .string ci, .string cf] 23)).heap.size := by have := ba.size; omega
  replace HB := Lib.hid (HB.out.trans (ba.mono HB.out.size))
  clear ba
  have C4 : Cells3 (V22.alloc (.cells #[.bool cn, .string ci, .string cf] 23)) V22.heap.size (.bool cn) (.string ci) (.string cf) := (one_box V22 _ _ _ _).2.1
  have z4 : V22.heap.size + 1 ≤ (V22.alloc (.cells #[.bool cn, .string ci, .string cf] 23)).heap.size := by simp
  have o00 := C0.1
  have o10 := C1.1
  have o20 := C2.1
  have o40 := C4.1
  have o01 := C0.2.1
  have o02 := C0.2.2
  have o11 := C1.2.1
  have o12 := C1.2.2
  have o21 := C2.2.1
  have o22 := C2.2.2
  have o41 := C4.2.1
  have o42 := C4.2.2
  go_wp2_with fail
  clear o00 o01 o02 o10 o11 o12 o20 o21 o22 o40 o41 o42
  obtain ⟨V22x, hV22x⟩ : ∃ V22x, V22x = V22.alloc (.cells #[.bool cn, .string ci, .string cf] 23) := ⟨_, rfl⟩
  have HX := Lib.hid (show V22.heap.size + 1 = V22x.heap.size by rw [hV22x]; simp)
  rw [← hV22x]
  rw [← hV22x] at HB C0 z0 C1 z1 C2 z2 C4 z4
  clear hV22x
  (with_reducible refine (D6.out _).mono ?_)
  rintro e V23 ⟨rfl, hb⟩
  replace C0 := C0.keep hb (by omega)
  replace z0 : w.heap.size + 1 ≤ V23.heap.size := by have := hb.size; omega
  replace C1 := C1.keep hb (by omega)
  replace z1 : (w.heap.size + 1) + 1 ≤ V23.heap.size := by have := hb.size; omega
  replace C2 := C2.keep hb (by omega)
  replace z2 : V2.heap.size + 1 ≤ V23.heap.size := by have := hb.size; omega
  replace C4 := C4.keep hb (by omega)
  replace z4 : V22.heap.size + 1 ≤ V23.heap.size := by have := hb.size; omega
  replace HB := Lib.hid (HB.out.trans (hb.mono HB.out.size))
  clear hb
  have ba : Below V23.heap.size V23 (V23.alloc (.cells #[.bool dn, .string di, .string df] 23)) := (Below.refl _ _).alloc (Nat.le_refl _) _
  replace C0 := C0.keep ba (by omega)
  replace z0 : w.heap.size + 1 ≤ (V23.alloc (.cells #[.bool dn, .string di, .string df] 23)).heap.size := by have := ba.size; omega
  replace C1 := C1.keep ba (by omega)
  replace z1 : (w.heap.size + 1) + 1 ≤ (V23.alloc (.cells #[.bool dn, .string di, .string df] 23)).heap.size := by have := ba.size; omega
  replace C2 := C2.keep ba (by omega)
  replace z2 : V2.heap.size + 1 ≤ (V23.alloc (.cells #[.bool dn, .string di, .string df] 23)).heap.size := by have := ba.size; omega
  replace C4 := C4.keep ba (by omega)
  replace z4 : V22.heap.size + 1 ≤ (V23.alloc (.cells #[.bool dn, .string di, .string df] 23)).heap.size := by have := ba.size; omega
  replace HB := Lib.hid (HB.out.trans (ba.mono HB.out.size))
  clear ba
  have C5 : Cells3 (V23.alloc (.cells #[.bool dn, .string di, .string df] 23)) V23.heap.size (.bool dn) (.string di) (.string df) := (one_box V23 _ _ _ _).2.1
  have z5 : V23.heap.size + 1 ≤ (V23.alloc (.cells #[.bool dn, .string di, .string df] 23)).heap.size := by simp
  have o00 := C0.1
  have o10 := C1.1
  have o20 := C2.1
  have o40 := C4.1
  have o50 := C5.1
  have o01 := C0.2.1
  have o02 := C0.2.2
  have o11 := C1.2.1
  have o12 := C1.2.2
  have o21 := C2.2.1
  have o22 := C2.2.2
  have o41 := C4.2.1
  have o42 := C4.2.2
  have o51 := C5.2.1
  have o52 := C5.2.2
  cases k8 : (e5 == 0) with
  | false =>
    have k9 : (e5 != 0) = true := by rw [bne, k8]; rfl
    go_wp2
    go_ret
    exact ⟨rfl, HB.out⟩
  | true =>
    have k9 : (e5 != 0) = false := by rw [bne, k8]; rfl
    cases k10 : (e6 == 0) with
    | false =>
      have k11 : (e6 != 0) = true := by rw [bne, k10]; rfl
      go_wp2
      go_ret
      exact ⟨rfl, HB.out⟩
    | true =>
      have k11 : (e6 != 0) = false := by rw [bne, k10]; rfl
      obtain ⟨un, ui, uf, vn, vi, vf, e8, K1, K2, K3⟩ := DU.out (by simpa using k8) (by simpa using k10)
      have DM := Lib.hid K1
      have DN := Lib.hid K2
      have DO := Lib.hid K3
      clear K1 K2 K3
      go_wp2_with fail
      clear o00 o01 o02 o10 o11 o12 o20 o21 o22 o40 o41 o42 o50 o51 o52
      obtain ⟨V23x, hV23x⟩ : ∃ V23x, V23x = V23.alloc (.cells #[.bool dn, .string di, .string df] 23) := ⟨_, rfl⟩
      have HX := Lib.hid (show V23.heap.size + 1 = V23x.heap.size by rw [hV23x]; simp)
      rw [← hV23x]
      rw [← hV23x] at HB C0 z0 C1 z1 C2 z2 C4 z4 C5 z5
      clear hV23x
      (with_reducible refine (DM.out _).mono ?_)
      rintro e V24 ⟨rfl, hb⟩
      replace C0 := C0.keep hb (by omega)
      replace z0 : w.heap.size + 1 ≤ V24.heap.size := by have := hb.size; omega
      replace C1 := C1.keep hb (by omega)
      replace z1 : (w.heap.size + 1) + 1 ≤ V24.heap.size := by have := hb.size; omega
      replace C2 := C2.keep hb (by omega)
      replace z2 : V2.heap.size + 1 ≤ V24.heap.size := by have := hb.size; omega
      replace C4 := C4.keep hb (by omega)
      replace z4 : V22.heap.size + 1 ≤ V24.heap.size := by have := hb.size; omega
      replace C5 := C5.keep hb (by omega)
      replace z5 : V23.heap.size + 1 ≤ V24.heap.size := by have := hb.size; omega
      replace HB := Lib.hid (HB.out.trans (hb.mono HB.out.size))
      clear hb
      have ba : Below V24.heap.size V24 (V24.alloc (.cells #[.bool un, .string ui, .string uf] 23)) := (Below.refl _ _).alloc (Nat.le_refl _) _
      replace C0 := C0.keep ba (by omega)
      replace z0 : w.heap.size + 1 ≤ (V24.alloc (.cells #[.bool un, .string ui, .string uf] 23)).heap.size := by have := ba.size; omega
      replace C1 := C1.keep ba (by omega)
      replace z1 : (w.heap.size + 1) + 1 ≤ (V24.alloc (.cells #[.bool un, .string ui, .string uf] 23)).heap.size := by have := ba.size; omega
      replace C2 := C2.keep ba (by omega)
      replace z2 : V2.heap.size + 1 ≤ (V24.alloc (.cells #[.bool un, .string ui, .string uf] 23)).heap.size := by have := ba.size; omega
      replace C4 := C4.keep ba (by omega)
      replace z4 : V22.heap.size + 1 ≤ (V24.alloc (.cells #[.bool un, .string ui, .string uf] 23)).heap.size := by have := ba.size; omega
      replace C5 := C5.keep ba (by omega)
      replace z5 : V23.heap.size + 1 ≤ (V24.alloc (.cells #[.bool un, .string ui, .string uf] 23)).heap.size := by have := ba.size; omega
      replace HB := Lib.hid (HB.out.trans (ba.mono HB.out.size))
      clear ba
      have C6 : Cells3 (V24.alloc (.cells #[.bool un, .string ui, .string uf] 23)) V24.heap.size (.bool un) (.string ui) (.string uf) := (one_box V24 _ _ _ _).2.1
      have z6 : V24.heap.size + 1 ≤ (V24.alloc (.cells #[.bool un, .string ui, .string uf] 23)).heap.size := by simp
      have o00 := C0.1
      have o10 := C1.1
      have o20 := C2.1
      have o40 := C4.1
      have o50 := C5.1
      have o60 := C6.1
      have o01 := C0.2.1
      have o02 := C0.2.2
      have o11 := C1.2.1
      have o12 := C1.2.2
      have o21 := C2.2.1
      have o22 := C2.2.2
      have o41 := C4.2.1
      have o42 := C4.2.2
      have o51 := C5.2.1
      have o52 := C5.2.2
      have o61 := C6.2.1
      have o62 := C6.2.2
      go_wp2_with fail
      clear o00 o01 o02 o10 o11 o12 o20 o21 o22 o40 o41 o42 o50 o51 o52 o60 o61 o62
      obtain ⟨V24x, hV24x⟩ : ∃ V24x, V24x = V24.alloc (.cells #[.bool un, .string ui, .string uf] 23) := ⟨_, rfl⟩
      have HX := Lib.hid (show V24.heap.size + 1 = V24x.heap.size by rw [hV24x]; simp)
      rw [← hV24x]
      rw [← hV24x] at HB C0 z0 C1 z1 C2 z2 C4 z4 C5 z5 C6 z6
      clear hV24x
      (with_reducible refine (DN.out _).mono ?_)
      rintro e V25 ⟨rfl, hb⟩
      replace C0 := C0.keep hb (by omega)
      replace z0 : w.heap.size + 1 ≤ V25.heap.size := by have := hb.size; omega
      replace C1 := C1.keep hb (by omega)
      replace z1 : (w.heap.size + 1) + 1 ≤ V25.heap.size := by have := hb.size; omega
      replace C2 := C2.keep hb (by omega)
      replace z2 : V2.heap.size + 1 ≤ V25.heap.size := by have := hb.size; omega
      replace C4 := C4.keep hb (by omega)
      replace z4 : V22.heap.size + 1 ≤ V25.heap.size := by have := hb.size; omega
      replace C5 := C5.keep hb (by omega)
      replace z5 : V23.heap.size + 1 ≤ V25.heap.size := by have := hb.size; omega
      replace C6 := C6.keep hb (by omega)
      replace z6 : V24.heap.size + 1 ≤ V25.heap.size := by have := hb.size; omega
      replace HB := Lib.hid (HB.out.trans (hb.mono HB.out.size))
      clear hb
      have ba : Below V25.heap.size V25 (V25.alloc (.cells #[.bool vn, .string vi, .string vf] 23)) := (Below.refl _ _).alloc (Nat.le_refl _) _
      replace C0 := C0.keep ba (by omega)
      replace z0 : w.heap.size + 1 ≤ (V25.alloc (.cells #[.bool vn, .string vi, .string vf] 23)).heap.size := by have := ba.size; omega
      replace C1 := C1.keep ba (by omega)
      replace z1 : (w.heap.size + 1) + 1 ≤ (V25.alloc (.cells #[.bool vn, .string vi, .string vf] 23)).heap.size := by have := ba.size; omega
      replace C2 := C2.keep ba (by omega)
      replace z2 : V2.heap.size + 1 ≤ (V25.alloc (.cells #[.bool vn, .string vi, .string vf] 23)).heap.size := by have := ba.size; omega
      replace C4 := C4.keep ba (by omega)
      replace z4 : V22.heap.size + 1 ≤ (V25.alloc (.cells #[.bool vn, .string vi, .string vf] 23)).heap.size := by have := ba.size; omega
      replace C5 := C5.keep ba (by omega)
      replace z5 : V23.heap.size + 1 ≤ (V25.alloc (.cells #[.bool vn, .string vi, .string vf] 23)).heap.size := by have := ba.size; omega
      replace C6 := C6.keep ba (by omega)
      replace z6 : V24.heap.size + 1 ≤ (V25.alloc (.cells #[.bool vn, .string vi, .string vf] 23)).heap.size := by have := ba.size; omega
      replace HB := Lib.hid (HB.out.trans (ba.mono HB.out.size))
      clear ba
      have C7 : Cells3 (V25.alloc (.cells #[.bool vn, .string vi, .string vf] 23)) V25.heap.size (.bool vn) (.string vi) (.string vf) := (one_box V25 _ _ _ _).2.1
      have z7 : V25.heap.size + 1 ≤ (V25.alloc (.cells #[.bool vn, .string vi, .string vf] 23)).heap.size := by simp
      have o00 := C0.1
      have o10 := C1.1
      have o20 := C2.1
      have o40 := C4.1
      have o50 := C5.1
      have o60 := C6.1
      have o70 := C7.1
      have o01 := C0.2.1
      have o02 := C0.2.2
      have o11 := C1.2.1
      have o12 := C1.2.2
      have o21 := C2.2.1
      have o22 := C2.2.2
      have o41 := C4.2.1
      have o42 := C4.2.2
      have o51 := C5.2.1
      have o52 := C5.2.2
      have o61 := C6.2.1
      have o62 := C6.2.2
      have o71 := C7.2.1
      have o72 := C7.2.2
      cases k12 : (e8 == 0) with
      | false =>
        have k13 : (e8 != 0) = true := by rw [bne, k12]; rfl
        go_wp2
        go_ret
        exact ⟨rfl, HB.out⟩
      | true =>
        have k13 : (e8 != 0) = false := by rw [bne, k12]; rfl
        have DO2 := Lib.hid (DO.out (by simpa using k12))
        clear DO
        go_wp2_with fail
        clear o00 o01 o02 o10 o11 o12 o20 o21 o22 o40 o41 o42 o50 o51 o52 o60 o61 o62 o70 o71 o72
        obtain ⟨V25x, hV25x⟩ : ∃ V25x, V25x = V25.alloc (.cells #[.bool vn, .string vi, .string vf] 23) := ⟨_, rfl⟩
        have HX := Lib.hid (show V25.heap.size + 1 = V25x.heap.size by rw [hV25x]; simp)
        rw [← hV25x]
        rw [← hV25x] at HB C0 z0 C1 z1 C2 z2 C4 z4 C5 z5 C6 z6 C7 z7
        clear hV25x
        (with_reducible refine (DO2.out _).mono ?_)
        rintro e V26 ⟨rfl, hb⟩
        replace C0 := C0.keep hb (by omega)
        replace z0 : w.heap.size + 1 ≤ V26.heap.size := by have := hb.size; omega
        replace C1 := C1.keep hb (by omega)
        replace z1 : (w.heap.size + 1) + 1 ≤ V26.heap.size := by have := hb.size; omega
        replace C2 := C2.keep hb (by omega)
        replace z2 : V2.heap.size + 1 ≤ V26.heap.size := by have := hb.size; omega
        replace C4 := C4.keep hb (by omega)
        replace z4 : V22.heap.size + 1 ≤ V26.heap.size := by have := hb.size; omega
        replace C5 := C5.keep hb (by omega)
        replace z5 : V23.heap.size + 1 ≤ V26.heap.size := by have := hb.size; omega
        replace C6 := C6.keep hb (by omega)
        replace z6 : V24.heap.size + 1 ≤ V26.heap.size := by have := hb.size; omega
        replace C7 := C7.keep hb (by omega)
        replace z7 : V25.heap.size + 1 ≤ V26.heap.size := by have := hb.size; omega
        replace HB := Lib.hid (HB.out.trans (hb.mono HB.out.size))
        clear hb
        have o00 := C0.1
        have o10 := C1.1
        have o20 := C2.1
        have o40 := C4.1
        have o50 := C5.1
        have o60 := C6.1
        have o70 := C7.1
        have o01 := C0.2.1
        have o02 := C0.2.2
        have o11 := C1.2.1
        have o12 := C1.2.2
        have o21 := C2.2.1
        have o22 := C2.2.2
        have o41 := C4.2.1
        have o42 := C4.2.2
        have o51 := C5.2.1
        have o52 := C5.2.2
        have o61 := C6.2.1
        have o62 := C6.2.2
        have o71 := C7.2.1
        have o72 := C7.2.2
        go_wp2
        go_ret
        exact ⟨rfl, HB.out⟩

set_option maxHeartbeats 2000000 in
set_option maxRecDepth 100000 in
theorem rest_er (an bn : Bool) (ai af bi bf : ByteArray) (n e1 : Int) (w : World) (H1 : (∀ wx : World, Calls Try.prog 27 #[(.agg #[.bool an, .string ai, .string af]), (.agg #[.bool bn, .string bi, .string bf])] wx fun e w' => e = .returned (.tuple #[.agg #[.bool false, .string ⟨#[]⟩, .string ⟨#[]⟩], .int .i64 e1]) ∧ Below wx.heap.size wx w')) (g1 : e1 ≠ 0) :
    Calls Try.prog 6 #[(.agg #[.bool an, .string ai, .string af]), (.agg #[.bool bn, .string bi, .string bf]), .int .i64 n] w fun e w' => e = .returned (.bool true) ∧ Below w.heap.size w w' := by
  have DW := Lib.hid awake_any
  have D1 := Lib.hid H1
  clear H1
  have k8 : (e1 != 0) = true := by simpa using g1
  go_enter Try.func6, Try.ntmps6
  go_wp2_with fail
  obtain ⟨W0, hW0⟩ : ∃ W0, W0 = ((w.alloc (.cells #[.bool an, .string ai, .string af] 23)).alloc (.cells #[.bool bn, .string bi, .string bf] 23)) := ⟨_, rfl⟩
  obtain ⟨hB, hz, C0, C1, _⟩ : Below w.heap.size w W0 ∧ w.heap.size + 2 ≤ W0.heap.size ∧ Cells3 W0 w.heap.size (.bool an) (.string ai) (.string af) ∧ Cells3 W0 (w.heap.size + 1) (.bool bn) (.string bi) (.string bf) ∧ ∀ i, W0.frozen? ⟨(w.heap.size + 1), i, none⟩ = false := by rw [hW0]; exact ⟨below_two w _ _, two_boxes w _ _ _ _ _ _ _⟩
  have z0 : w.heap.size + 1 ≤ W0.heap.size := by omega
  have z1 : (w.heap.size + 1) + 1 ≤ W0.heap.size := by omega
  rw [← hW0]
  have HB := Lib.hid hB
  clear hW0 hB hz
  (with_reducible refine (DW.out _).mono ?_)
  rintro e V1 ⟨rfl, hb⟩
  replace C0 := C0.keep hb (by omega)
  replace z0 : w.heap.size + 1 ≤ V1.heap.size := by have := hb.size; omega
  replace C1 := C1.keep hb (by omega)
  replace z1 : (w.heap.size + 1) + 1 ≤ V1.heap.size := by have := hb.size; omega
  replace HB := Lib.hid (HB.out.trans (hb.mono HB.out.size))
  clear hb
  have o00 := C0.1
  have o10 := C1.1
  have o01 := C0.2.1
  have o02 := C0.2.2
  have o11 := C1.2.1
  have o12 := C1.2.2
  go_wp2_with fail
  clear o00 o01 o02 o10 o11 o12
  (with_reducible refine (D1.out _).mono ?_)
  rintro e V2 ⟨rfl, hb⟩
  replace C0 := C0.keep hb (by omega)
  replace z0 : w.heap.size + 1 ≤ V2.heap.size := by have := hb.size; omega
  replace C1 := C1.keep hb (by omega)
  replace z1 : (w.heap.size + 1) + 1 ≤ V2.heap.size := by have := hb.size; omega
  replace HB := Lib.hid (HB.out.trans (hb.mono HB.out.size))
  clear hb
  have ba : Below V2.heap.size V2 (V2.alloc (.cells #[.bool false, .string ⟨#[]⟩, .string ⟨#[]⟩] 23)) := (Below.refl _ _).alloc (Nat.le_refl _) _
  replace C0 := C0.keep ba (by omega)
  replace z0 : w.heap.size + 1 ≤ (V2.alloc (.cells #[.bool false, .string ⟨#[]⟩, .string ⟨#[]⟩] 23)).heap.size := by have := ba.size; omega
  replace C1 := C1.keep ba (by omega)
  replace z1 : (w.heap.size + 1) + 1 ≤ (V2.alloc (.cells #[.bool false, .string ⟨#[]⟩, .string ⟨#[]⟩] 23)).heap.size := by have := ba.size; omega
  replace HB := Lib.hid (HB.out.trans (ba.mono HB.out.size))
  clear ba
  have C2 : Cells3 (V2.alloc (.cells #[.bool false, .string ⟨#[]⟩, .string ⟨#[]⟩] 23)) V2.heap.size (.bool false) (.string ⟨#[]⟩) (.string ⟨#[]⟩) := (one_box V2 _ _ _ _).2.1
  have z2 : V2.heap.size + 1 ≤ (V2.alloc (.cells #[.bool false, .string ⟨#[]⟩, .string ⟨#[]⟩] 23)).heap.size := by simp
  have o00 := C0.1
  have o10 := C1.1
  have o20 := C2.1
  have o01 := C0.2.1
  have o02 := C0.2.2
  have o11 := C1.2.1
  have o12 := C1.2.2
  have o21 := C2.2.1
  have o22 := C2.2.2
  go_wp2
  go_ret
  exact ⟨rfl, HB.out⟩
end Go.Proofs.Ytmaljkjcibdbgaa
