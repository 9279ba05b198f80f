/- Operands, merged: LawOs, LawOs2. -/
import Derived.Test.YtpbljcjghjbjdaaDoorMgE
namespace Go.Proofs.YtpbljcjghjbjdaaDoor
section
open Go.RowKit
attribute [local go_sem ↓] Go.wp_at_zero Go.wp_at_succ

/-- The letters, one after another. -/
def letS (i : Nat) : ByteArray := ⟨#[[110, 105, 118, 119, 102, 116, 99, 101].getD i 0]⟩

theorem letS_cut (k : Nat) (h : k < 8) : (⟨#[110, 105, 118, 119, 102, 116, 99, 101]⟩ : ByteArray).extract k (k + 1) = letS k := by
  match k, h with
  | 0, _ => rfl
  | 1, _ => rfl
  | 2, _ => rfl
  | 3, _ => rfl
  | 4, _ => rfl
  | 5, _ => rfl
  | 6, _ => rfl
  | 7, _ => rfl

set_option maxHeartbeats 8000000 in
set_option maxRecDepth 100000 in
theorem os_core (dn : Bool) (di df : ByteArray) (ex : Int) (be rO rM : ByteArray) (rN rW : Bool) (ad : Option Addr) (n cap : Nat) (xn : Bool) (xi xf xI : ByteArray) (xV xW : Int) (xG xT : ByteArray) (xX c : Int) (Lst : World → Nat → Nat → Prop) (w : World)
    (H1 : ∀ wx : World, Calls Tryd.prog 28 #[.agg #[.bool dn, .string di, .string df], .int .i64 ex] wx fun e w' => e = .returned (.tuple #[.agg #[.bool xn, .string xi, .string xf, .string xI, .int .i64 xV, .int .i64 xW, .string xG, .string xT, .int .i64 xX], .int .i64 c]) ∧ Below wx.heap.size wx w')
    (H2 : ∀ wx : World, Calls Tryd.prog 29 #[.agg #[.bool dn, .string di, .string df], .int .i64 ex] wx fun e w' => e = .returned (.tuple #[.agg #[.bool xn, .string xi, .string xf, .string xI, .int .i64 xV, .int .i64 xW, .string xG, .string xT, .int .i64 xX], .int .i64 c]) ∧ Below wx.heap.size wx w')
    (hk : ∀ (W W' : World) (g1 c1 : Nat), Lst W g1 c1 → Below W.heap.size W W' → Lst W' g1 c1)
    (H5 : ∀ wx : World, Below w.heap.size w wx → Calls Tryd.prog 26 #[.agg #[.string rO, .string rM, .bool rN, .bool rW, .slice ad n cap]] wx fun e w' => ∃ g1 c1, e = .returned (.agg #[.string rO, .string rM, .bool rN, .bool rW, .slice (some ⟨g1, 0, none⟩) n c1]) ∧ Below wx.heap.size wx w' ∧ Lst w' g1 c1)
    (H6 : ∀ (wx : World) (L : ByteArray) (g1 c1 : Nat), Lst wx g1 c1 → Calls Tryd.prog 26 #[.agg #[.string L, .string rM, .bool rN, .bool rW, .slice (some ⟨g1, 0, none⟩) n c1]] wx fun e w' => ∃ g2 c2, e = .returned (.agg #[.string L, .string rM, .bool rN, .bool rW, .slice (some ⟨g2, 0, none⟩) n c2]) ∧ Below wx.heap.size wx w' ∧ Lst w' g2 c2)
    (HM : c = 0 → ∀ i, i < 8 → ∃ (mn : Bool) (mi mf : ByteArray) (d : Int), (∀ wx : World, Calls Tryd.prog 23 #[.agg #[.bool xn, .string xi, .string xf, .string xI, .int .i64 xV, .int .i64 xW, .string xG, .string xT, .int .i64 xX], .string (letS i), .string be] wx fun e w' => e = .returned (.tuple #[.agg #[.bool mn, .string mi, .string mf], .int .i64 d]) ∧ Below wx.heap.size wx w') ∧ (∀ wx : World, Calls Tryd.prog 24 #[.agg #[.bool xn, .string xi, .string xf, .string xI, .int .i64 xV, .int .i64 xW, .string xG, .string xT, .int .i64 xX], .string (letS i), .string be] wx fun e w' => e = .returned (.tuple #[.agg #[.bool mn, .string mi, .string mf], .int .i64 d]) ∧ Below wx.heap.size wx w'))
    (HI : c = 0 → ∀ i, i < 8 → ∃ (v : Bool) (k : Int), (∀ (wx : World) (g1 c1 : Nat), Lst wx g1 c1 → Calls Tryd.prog 25 #[.agg #[.bool xn, .string xi, .string xf, .string xI, .int .i64 xV, .int .i64 xW, .string xG, .string xT, .int .i64 xX], .agg #[.string (letS i), .string rM, .bool rN, .bool rW, .slice (some ⟨g1, 0, none⟩) n c1]] wx fun e w' => e = .returned (.tuple #[.bool v, .int .i64 k]) ∧ Below wx.heap.size wx w') ∧
      (∀ (wx : World) (g1 c1 : Nat), Lst wx g1 c1 → Calls Tryd.prog 27 #[.agg #[.bool xn, .string xi, .string xf, .string xI, .int .i64 xV, .int .i64 xW, .string xG, .string xT, .int .i64 xX], .agg #[.string (letS i), .string rM, .bool rN, .bool rW, .slice (some ⟨g1, 0, none⟩) n c1]] wx fun e w' => e = .returned (.tuple #[.bool v, .int .i64 k]) ∧ Below wx.heap.size wx w')) :
    Calls Tryd.prog 6 #[.agg #[.bool dn, .string di, .string df], .int .i64 ex, .string be, .agg #[.string rO, .string rM, .bool rN, .bool rW, .slice ad n cap]] w fun e w' => e = .returned (.bool true) ∧ Below w.heap.size w w' := by
  have D1 := Lib.hid H1
  have D2 := Lib.hid H2
  have D5 := Lib.hid H5
  have D6 := Lib.hid H6
  have DM := Lib.hid HM
  have DI := Lib.hid HI
  have HLK := Lib.hid hk
  have DW := Lib.hid oawake_any
  have q0 : (xn == xn) = true := beq_self_eq_true _
  have q1 : (xi.toList == xi.toList) = true := beq_self_eq_true _
  have q2 : (xf.toList == xf.toList) = true := beq_self_eq_true _
  have q3 : (xI.toList == xI.toList) = true := beq_self_eq_true _
  have q4 : (xV == xV) = true := beq_self_eq_true _
  have q5 : (xW == xW) = true := beq_self_eq_true _
  have q6 : (xG.toList == xG.toList) = true := beq_self_eq_true _
  have q7 : (xT.toList == xT.toList) = true := beq_self_eq_true _
  have q8 : (xX == xX) = true := beq_self_eq_true _
  have qc : (c == c) = true := beq_self_eq_true _
  clear H1 H2 H5 H6 HM HI hk
  go_enter Tryd.func6, Tryd.ntmps6
  go_wp2_with fail
  obtain ⟨W0, hW0⟩ : ∃ W0, W0 = (w.alloc (.cells #[.bool dn, .string di, .string df] 23)).alloc (.cells #[.string rO, .string rM, .bool rN, .bool rW, .slice ad n cap] 39) := ⟨_, rfl⟩
  obtain ⟨hb2, hz2, KD0, KR0⟩ : Below w.heap.size w W0 ∧ w.heap.size + 2 ≤ W0.heap.size ∧ Cells3 W0 w.heap.size (.bool dn) (.string di) (.string df) ∧ Cells5 W0 (w.heap.size + 1) (.string rO) (.string rM) (.bool rN) (.bool rW) (.slice ad n cap) := by
    rw [hW0]
    have b1 : Below w.heap.size w (w.alloc (.cells #[.bool dn, .string di, .string df] 23)) := (Below.refl _ w).alloc (Nat.le_refl _) _
    have n1 := (one_box w (.bool dn) (.string di) (.string df) 23).2.1
    have hs : (w.alloc (.cells #[.bool dn, .string di, .string df] 23)).heap.size = w.heap.size + 1 := by simp
    generalize w.alloc (.cells #[.bool dn, .string di, .string df] 23) = w1 at *
    have n2 := (five_box w1 (.string rO) (.string rM) (.bool rN) (.bool rW) (.slice ad n cap) 39).2.1
    have b2 : Below w1.heap.size w1 (w1.alloc (.cells #[.string rO, .string rM, .bool rN, .bool rW, .slice ad n cap] 39)) := (Below.refl _ w1).alloc (Nat.le_refl _) _
    rw [hs] at n2
    exact ⟨b1.trans (b2.mono b1.size), by simp; omega, n1.keep b2 (by omega), n2⟩
  rw [← hW0]
  have KD := Lib.hid KD0
  have KR := Lib.hid KR0
  have zd : w.heap.size + 1 ≤ W0.heap.size := by omega
  have zr : (w.heap.size + 1) + 1 ≤ W0.heap.size := by omega
  have HB := Lib.hid hb2
  clear hW0 hb2 hz2 KD0 KR0
  (with_reducible refine (D1.out _).mono ?_)
  rintro e V1 ⟨rfl, hb⟩
  have ba : Below V1.heap.size V1 (V1.alloc (.cells #[.bool xn, .string xi, .string xf, .string xI, .int .i64 xV, .int .i64 xW, .string xG, .string xT, .int .i64 xX] 36)) := (Below.refl _ _).alloc (Nat.le_refl _) _
  have hc : Below W0.heap.size W0 (V1.alloc (.cells #[.bool xn, .string xi, .string xf, .string xI, .int .i64 xV, .int .i64 xW, .string xG, .string xT, .int .i64 xX] 36)) := hb.trans (ba.mono hb.size)
  have hzz := hb.size
  have gd_o : w.heap.size + 1 ≤ V1.heap.size := by omega
  have gr_o : (w.heap.size + 1) + 1 ≤ V1.heap.size := by omega
  replace KD := Lib.hid (KD.out.keep hc (by omega))
  replace KR := Lib.hid (KR.out.keep hc (by omega))
  replace zd : w.heap.size + 1 ≤ (V1.alloc (.cells #[.bool xn, .string xi, .string xf, .string xI, .int .i64 xV, .int .i64 xW, .string xG, .string xT, .int .i64 xX] 36)).heap.size := by have := hc.size; omega
  replace zr : (w.heap.size + 1) + 1 ≤ (V1.alloc (.cells #[.bool xn, .string xi, .string xf, .string xI, .int .i64 xV, .int .i64 xW, .string xG, .string xT, .int .i64 xX] 36)).heap.size := by have := hc.size; omega
  replace HB := Lib.hid (HB.out.trans (hc.mono HB.out.size))
  have N1 := nine_box V1 (.bool xn) (.string xi) (.string xf) (.string xI) (.int .i64 xV) (.int .i64 xW) (.string xG) (.string xT) (.int .i64 xX) 36
  have KO := Lib.hid N1.2.1
  have FO := Lib.hid N1.2.2
  have zo : V1.heap.size + 1 ≤ (V1.alloc (.cells #[.bool xn, .string xi, .string xf, .string xI, .int .i64 xV, .int .i64 xW, .string xG, .string xT, .int .i64 xX] 36)).heap.size := N1.1
  clear hb ba hc hzz N1
  obtain ⟨kd_0, kd_1, kd_2⟩ := KD.out
  go_wp2_with fail
  clear kd_0 kd_1 kd_2
  obtain ⟨W1, hW1⟩ : ∃ W1, W1 = (V1.alloc (.cells #[.bool xn, .string xi, .string xf, .string xI, .int .i64 xV, .int .i64 xW, .string xG, .string xT, .int .i64 xX] 36)) := ⟨_, rfl⟩
  obtain ⟨bo, hbo⟩ : ∃ bo, bo = V1.heap.size := ⟨_, rfl⟩
  rw [← hW1]
  try rw [← hbo]
  rw [← hW1] at KD KR KO FO zd zr zo HB
  rw [← hbo] at KO FO zo gd_o gr_o
  clear hW1 hbo
  (with_reducible refine (D2.out _).mono ?_)
  rintro e V2 ⟨rfl, hb⟩
  have ba : Below V2.heap.size V2 (V2.alloc (.cells #[.bool xn, .string xi, .string xf, .string xI, .int .i64 xV, .int .i64 xW, .string xG, .string xT, .int .i64 xX] 36)) := (Below.refl _ _).alloc (Nat.le_refl _) _
  have hc : Below W1.heap.size W1 (V2.alloc (.cells #[.bool xn, .string xi, .string xf, .string xI, .int .i64 xV, .int .i64 xW, .string xG, .string xT, .int .i64 xX] 36)) := hb.trans (ba.mono hb.size)
  have hzz := hb.size
  have gr_w : (w.heap.size + 1) + 1 ≤ V2.heap.size := by omega
  have go_w : bo + 1 ≤ V2.heap.size := by omega
  replace KD := Lib.hid (KD.out.keep hc (by omega))
  replace KR := Lib.hid (KR.out.keep hc (by omega))
  replace KO := Lib.hid (KO.out.keep hc (by omega))
  replace FO := Lib.hid (frozen_keep FO.out hc (by omega))
  replace zd : w.heap.size + 1 ≤ (V2.alloc (.cells #[.bool xn, .string xi, .string xf, .string xI, .int .i64 xV, .int .i64 xW, .string xG, .string xT, .int .i64 xX] 36)).heap.size := by have := hc.size; omega
  replace zr : (w.heap.size + 1) + 1 ≤ (V2.alloc (.cells #[.bool xn, .string xi, .string xf, .string xI, .int .i64 xV, .int .i64 xW, .string xG, .string xT, .int .i64 xX] 36)).heap.size := by have := hc.size; omega
  replace zo : bo + 1 ≤ (V2.alloc (.cells #[.bool xn, .string xi, .string xf, .string xI, .int .i64 xV, .int .i64 xW, .string xG, .string xT, .int .i64 xX] 36)).heap.size := by have := hc.size; omega
  replace HB := Lib.hid (HB.out.trans (hc.mono HB.out.size))
  have N1 := nine_box V2 (.bool xn) (.string xi) (.string xf) (.string xI) (.int .i64 xV) (.int .i64 xW) (.string xG) (.string xT) (.int .i64 xX) 36
  have KW := Lib.hid N1.2.1
  have FW := Lib.hid N1.2.2
  have zw : V2.heap.size + 1 ≤ (V2.alloc (.cells #[.bool xn, .string xi, .string xf, .string xI, .int .i64 xV, .int .i64 xW, .string xG, .string xT, .int .i64 xX] 36)).heap.size := N1.1
  clear hb ba hc hzz N1
  obtain ⟨ko_0, ko_1, ko_2, ko_3, ko_4, ko_5, ko_6, ko_7, ko_8⟩ := KO.out
  obtain ⟨kw_0, kw_1, kw_2, kw_3, kw_4, kw_5, kw_6, kw_7, kw_8⟩ := KW.out
  go_wp2_with fail
  clear ko_0 ko_1 ko_2 ko_3 ko_4 ko_5 ko_6 ko_7 ko_8 kw_0 kw_1 kw_2 kw_3 kw_4 kw_5 kw_6 kw_7 kw_8
  obtain ⟨W2, hW2⟩ : ∃ W2, W2 = (V2.alloc (.cells #[.bool xn, .string xi, .string xf, .string xI, .int .i64 xV, .int .i64 xW, .string xG, .string xT, .int .i64 xX] 36)) := ⟨_, rfl⟩
  obtain ⟨bw, hbw⟩ : ∃ bw, bw = V2.heap.size := ⟨_, rfl⟩
  rw [← hW2]
  try rw [← hbw]
  rw [← hW2] at KD KR KO KW FO FW zd zr zo zw HB
  rw [← hbw] at KW FW zw gr_w go_w
  clear hW2 hbw
  (with_reducible refine (DW.out _).mono ?_)
  rintro e V3 ⟨rfl, hb⟩
  have hzz := hb.size
  replace KD := Lib.hid (KD.out.keep hb (by omega))
  replace KR := Lib.hid (KR.out.keep hb (by omega))
  replace KO := Lib.hid (KO.out.keep hb (by omega))
  replace KW := Lib.hid (KW.out.keep hb (by omega))
  replace FO := Lib.hid (frozen_keep FO.out hb (by omega))
  replace FW := Lib.hid (frozen_keep FW.out hb (by omega))
  replace zd : w.heap.size + 1 ≤ V3.heap.size := by have := hb.size; omega
  replace zr : (w.heap.size + 1) + 1 ≤ V3.heap.size := by have := hb.size; omega
  replace zo : bo + 1 ≤ V3.heap.size := by have := hb.size; omega
  replace zw : bw + 1 ≤ V3.heap.size := by have := hb.size; omega
  replace HB := Lib.hid (HB.out.trans (hb.mono HB.out.size))
  clear hb hzz
  by_cases hc0 : c = 0
  · have qe : (c != 0) = false := by rw [hc0]; rfl
    have DM0 := Lib.hid (DM.out hc0)
    have DI0 := Lib.hid (DI.out hc0)
    subst hc0
    clear DM DI D1 D2 q0 q1 q2 q3 q4 q5 q6 q7 q8 qc
    go_wp2_with fail
    go_loopw [13] (fun i wr => ∃ k : Nat, i = .int .i64 (k : Int) ∧ k ≤ 8 ∧ bo + 1 ≤ wr.heap.size ∧ Below w.heap.size w wr ∧ Cells5 wr (w.heap.size + 1) (.string rO) (.string rM) (.bool rN) (.bool rW) (.slice ad n cap) ∧ Cells9 wr bo (.bool xn) (.string xi) (.string xf) (.string xI) (.int .i64 xV) (.int .i64 xW) (.string xG) (.string xT) (.int .i64 xX)) (fun i _ => 8 - (intOf i).toNat)
    case atStart => exact ⟨0, rfl, by omega, zo, HB.out, KR.out, KO.out⟩
    case round =>
      obtain ⟨k, rfl, hk8, zo', hB, hR, hO⟩ := hrel
      clear HB KR KO KW KD FO FW zo zd zr zw
      have HB := Lib.hid hB
      have KR := Lib.hid hR
      have KO := Lib.hid hO
      have zo := zo'
      have zr : (w.heap.size + 1) + 1 ≤ wr.heap.size := by omega
      clear hB hR hO zo'
      by_cases hlt : k < 8
      · obtain ⟨mn, mi, mf, d, M1, M2⟩ := DM0.out k hlt
        obtain ⟨v, kk, I1, I2⟩ := DI0.out k hlt
        have E1 := Lib.hid M1
        have E2 := Lib.hid M2
        have E3 := Lib.hid I1
        have E4 := Lib.hid I2
        have p1 : (mn == mn) = true := beq_self_eq_true _
        have p2 : (mi.toList == mi.toList) = true := beq_self_eq_true _
        have p3 : (mf.toList == mf.toList) = true := beq_self_eq_true _
        have p4 : (d == d) = true := beq_self_eq_true _
        have p5 : (v == v) = true := beq_self_eq_true _
        have p6 : (kk == kk) = true := beq_self_eq_true _
        have HLT := Lib.hid (letS_cut k hlt)
        clear M1 M2 I1 I2
        obtain ⟨ko_0, ko_1, ko_2, ko_3, ko_4, ko_5, ko_6, ko_7, ko_8⟩ := KO.out
        go_wp2_with fail
        rw [HLT.out]
        clear ko_0 ko_1 ko_2 ko_3 ko_4 ko_5 ko_6 ko_7 ko_8
        (with_reducible refine (E1.out _).mono ?_)
        rintro e V4 ⟨rfl, hb⟩
        have ba : Below V4.heap.size V4 (V4.alloc (.cells #[.bool mn, .string mi, .string mf] 23)) := (Below.refl _ _).alloc (Nat.le_refl _) _
        have hc : Below wr.heap.size wr (V4.alloc (.cells #[.bool mn, .string mi, .string mf] 23)) := hb.trans (ba.mono hb.size)
        have hzz := hb.size
        have gr_x : (w.heap.size + 1) + 1 ≤ V4.heap.size := by omega
        have go_x : bo + 1 ≤ V4.heap.size := by omega
        replace KR := Lib.hid (KR.out.keep hc (by omega))
        replace KO := Lib.hid (KO.out.keep hc (by omega))
        replace zr : (w.heap.size + 1) + 1 ≤ (V4.alloc (.cells #[.bool mn, .string mi, .string mf] 23)).heap.size := by have := hc.size; omega
        replace zo : bo + 1 ≤ (V4.alloc (.cells #[.bool mn, .string mi, .string mf] 23)).heap.size := by have := hc.size; omega
        replace HB := Lib.hid (HB.out.trans (hc.mono HB.out.size))
        have N1 := one_box V4 (.bool mn) (.string mi) (.string mf) 23
        have KX := Lib.hid N1.2.1
        have FX := Lib.hid N1.2.2
        have zx : V4.heap.size + 1 ≤ (V4.alloc (.cells #[.bool mn, .string mi, .string mf] 23)).heap.size := N1.1
        clear hb ba hc hzz N1
        obtain ⟨ko_0, ko_1, ko_2, ko_3, ko_4, ko_5, ko_6, ko_7, ko_8⟩ := KO.out
        go_wp2_with fail
        clear ko_0 ko_1 ko_2 ko_3 ko_4 ko_5 ko_6 ko_7 ko_8
        obtain ⟨W4, hW4⟩ : ∃ W4, W4 = (V4.alloc (.cells #[.bool mn, .string mi, .string mf] 23)) := ⟨_, rfl⟩
        obtain ⟨bx, hbx⟩ : ∃ bx, bx = V4.heap.size := ⟨_, rfl⟩
        rw [← hW4]
        try rw [← hbx]
        rw [← hW4] at KR KO KX FX zr zo zx HB
        rw [← hbx] at KX FX zx gr_x go_x
        clear hW4 hbx
        (with_reducible refine (E2.out _).mono ?_)
        rintro e V5 ⟨rfl, hb⟩
        have ba : Below V5.heap.size V5 (V5.alloc (.cells #[.bool mn, .string mi, .string mf] 23)) := (Below.refl _ _).alloc (Nat.le_refl _) _
        have hc : Below W4.heap.size W4 (V5.alloc (.cells #[.bool mn, .string mi, .string mf] 23)) := hb.trans (ba.mono hb.size)
        have hzz := hb.size
        have gr_z : (w.heap.size + 1) + 1 ≤ V5.heap.size := by omega
        have go_z : bo + 1 ≤ V5.heap.size := by omega
        have gx_z : bx + 1 ≤ V5.heap.size := by omega
        replace KR := Lib.hid (KR.out.keep hc (by omega))
        replace KO := Lib.hid (KO.out.keep hc (by omega))
        replace KX := Lib.hid (KX.out.keep hc (by omega))
        replace FX := Lib.hid (frozen_keep FX.out hc (by omega))
        replace zr : (w.heap.size + 1) + 1 ≤ (V5.alloc (.cells #[.bool mn, .string mi, .string mf] 23)).heap.size := by have := hc.size; omega
        replace zo : bo + 1 ≤ (V5.alloc (.cells #[.bool mn, .string mi, .string mf] 23)).heap.size := by have := hc.size; omega
        replace zx : bx + 1 ≤ (V5.alloc (.cells #[.bool mn, .string mi, .string mf] 23)).heap.size := by have := hc.size; omega
        replace HB := Lib.hid (HB.out.trans (hc.mono HB.out.size))
        have N1 := one_box V5 (.bool mn) (.string mi) (.string mf) 23
        have KZ := Lib.hid N1.2.1
        have FZ := Lib.hid N1.2.2
        have zz : V5.heap.size + 1 ≤ (V5.alloc (.cells #[.bool mn, .string mi, .string mf] 23)).heap.size := N1.1
        clear hb ba hc hzz N1
        obtain ⟨kr_0, kr_1, kr_2, kr_3, kr_4⟩ := KR.out
        obtain ⟨kx_0, kx_1, kx_2⟩ := KX.out
        obtain ⟨kz_0, kz_1, kz_2⟩ := KZ.out
        go_wp2_with fail
        clear kr_0 kr_1 kr_2 kr_3 kr_4 kx_0 kx_1 kx_2 kz_0 kz_1 kz_2
        obtain ⟨W5, hW5⟩ : ∃ W5, W5 = (V5.alloc (.cells #[.bool mn, .string mi, .string mf] 23)) := ⟨_, rfl⟩
        obtain ⟨bz, hbz⟩ : ∃ bz, bz = V5.heap.size := ⟨_, rfl⟩
        rw [← hW5]
        try rw [← hbz]
        rw [← hW5] at KR KO KX KZ FX FZ zr zo zx zz HB
        rw [← hbz] at KZ FZ zz gr_z go_z gx_z
        clear hW5 hbz
        (with_reducible refine (D5.out _ HB.out).mono ?_)
        rintro e V6 ⟨g1, c1, rfl, hb, hL⟩
        have HL0 := Lib.hid hL
        clear hL
        have HL := Lib.hid (HLK.out _ _ _ _ HL0.out ((Below.refl V6.heap.size V6).alloc (Nat.le_refl _) (.cells #[.string (letS k), .string rM, .bool rN, .bool rW, .slice (some ⟨g1, 0, none⟩) n c1] 39)))
        clear HL0
        have ba : Below V6.heap.size V6 (V6.alloc (.cells #[.string (letS k), .string rM, .bool rN, .bool rW, .slice (some ⟨g1, 0, none⟩) n c1] 39)) := (Below.refl _ _).alloc (Nat.le_refl _) _
        have hc : Below W5.heap.size W5 (V6.alloc (.cells #[.string (letS k), .string rM, .bool rN, .bool rW, .slice (some ⟨g1, 0, none⟩) n c1] 39)) := hb.trans (ba.mono hb.size)
        have hzz := hb.size
        have gr_k : (w.heap.size + 1) + 1 ≤ V6.heap.size := by omega
        have go_k : bo + 1 ≤ V6.heap.size := by omega
        have gx_k : bx + 1 ≤ V6.heap.size := by omega
        have gz_k : bz + 1 ≤ V6.heap.size := by omega
        replace KR := Lib.hid (KR.out.keep hc (by omega))
        replace KO := Lib.hid (KO.out.keep hc (by omega))
        replace KX := Lib.hid (KX.out.keep hc (by omega))
        replace KZ := Lib.hid (KZ.out.keep hc (by omega))
        replace FX := Lib.hid (frozen_keep FX.out hc (by omega))
        replace FZ := Lib.hid (frozen_keep FZ.out hc (by omega))
        replace zr : (w.heap.size + 1) + 1 ≤ (V6.alloc (.cells #[.string (letS k), .string rM, .bool rN, .bool rW, .slice (some ⟨g1, 0, none⟩) n c1] 39)).heap.size := by have := hc.size; omega
        replace zo : bo + 1 ≤ (V6.alloc (.cells #[.string (letS k), .string rM, .bool rN, .bool rW, .slice (some ⟨g1, 0, none⟩) n c1] 39)).heap.size := by have := hc.size; omega
        replace zx : bx + 1 ≤ (V6.alloc (.cells #[.string (letS k), .string rM, .bool rN, .bool rW, .slice (some ⟨g1, 0, none⟩) n c1] 39)).heap.size := by have := hc.size; omega
        replace zz : bz + 1 ≤ (V6.alloc (.cells #[.string (letS k), .string rM, .bool rN, .bool rW, .slice (some ⟨g1, 0, none⟩) n c1] 39)).heap.size := by have := hc.size; omega
        replace HB := Lib.hid (HB.out.trans (hc.mono HB.out.size))
        have N1 := five_box V6 (.string (letS k)) (.string rM) (.bool rN) (.bool rW) (.slice (some ⟨g1, 0, none⟩) n c1) 39
        have KK := Lib.hid N1.2.1
        have FK := Lib.hid N1.2.2
        have zk : V6.heap.size + 1 ≤ (V6.alloc (.cells #[.string (letS k), .string rM, .bool rN, .bool rW, .slice (some ⟨g1, 0, none⟩) n c1] 39)).heap.size := N1.1
        clear hb ba hc hzz N1
        go_wp2_with fail
        obtain ⟨W6, hW6⟩ : ∃ W6, W6 = (V6.alloc (.cells #[.string (letS k), .string rM, .bool rN, .bool rW, .slice (some ⟨g1, 0, none⟩) n c1] 39)) := ⟨_, rfl⟩
        obtain ⟨bk, hbk⟩ : ∃ bk, bk = V6.heap.size := ⟨_, rfl⟩
        rw [← hW6]
        try rw [← hbk]
        rw [← hW6] at KR KO KX KZ KK FX FZ FK zr zo zx zz zk HB HL
        rw [← hbk] at KK FK zk gr_k go_k gx_k gz_k
        clear hW6 hbk
        have hLV : Lst W6 g1 c1 := HL.out
        clear HL
        obtain ⟨ko_0, ko_1, ko_2, ko_3, ko_4, ko_5, ko_6, ko_7, ko_8⟩ := KO.out
        obtain ⟨kk_0, kk_1, kk_2, kk_3, kk_4⟩ := KK.out
        go_region_held3 (fun w' => w'.cell? ⟨bo, 0, none⟩ = some (.bool xn) ∧ w'.cell? ⟨bo, 1, none⟩ = some (.string xi) ∧ w'.cell? ⟨bo, 2, none⟩ = some (.string xf) ∧ w'.cell? ⟨bo, 3, none⟩ = some (.string xI) ∧ w'.cell? ⟨bo, 4, none⟩ = some (.int .i64 xV) ∧ w'.cell? ⟨bo, 5, none⟩ = some (.int .i64 xW) ∧ w'.cell? ⟨bo, 6, none⟩ = some (.string xG) ∧ w'.cell? ⟨bo, 7, none⟩ = some (.string xT) ∧ w'.cell? ⟨bo, 8, none⟩ = some (.int .i64 xX) ∧ w'.cell? ⟨bk, 0, none⟩ = some (.string (letS k)) ∧ w'.cell? ⟨bk, 1, none⟩ = some (.string rM) ∧ w'.cell? ⟨bk, 2, none⟩ = some (.bool rN) ∧ w'.cell? ⟨bk, 3, none⟩ = some (.bool rW) ∧ w'.cell? ⟨bk, 4, none⟩ = some (.slice (some ⟨g1, 0, none⟩) n c1))
          (first
            | (with_reducible exact ⟨ko_0, ko_1, ko_2, ko_3, ko_4, ko_5, ko_6, ko_7, ko_8, kk_0, kk_1, kk_2, kk_3, kk_4⟩)
            | (have t := KO.out.keep hA (by omega); have u := KK.out.keep hA (by omega); exact ⟨t.1, t.2.1, t.2.2.1, t.2.2.2.1, t.2.2.2.2.1, t.2.2.2.2.2.1, t.2.2.2.2.2.2.1, t.2.2.2.2.2.2.2.1, t.2.2.2.2.2.2.2.2, u.1, u.2.1, u.2.2.1, u.2.2.2.1, u.2.2.2.2⟩)
            | (have t := KO.out.keep hB (by omega); have u := KK.out.keep hB (by omega); exact ⟨t.1, t.2.1, t.2.2.1, t.2.2.2.1, t.2.2.2.2.1, t.2.2.2.2.2.1, t.2.2.2.2.2.2.1, t.2.2.2.2.2.2.2.1, t.2.2.2.2.2.2.2.2, u.1, u.2.1, u.2.2.1, u.2.2.2.1, u.2.2.2.2⟩)
            | go_keep)
          (first
            | (go_at_call 26; (refine (D6.out _ _ _ _ (by first | exact HLK.out _ _ _ _ hLV (drew1 (Below.refl _ _)) | exact hLV)).mono ?_); rintro e wA ⟨g2, c2, rfl, hbA, hLA⟩
               have hA : Below W6.heap.size W6 wA := undrew hbA)
            | (go_at_call 25; (refine (E3.out _ _ _ (by first | exact hLA | exact HLK.out _ _ _ _ hLA (drew1 (Below.refl _ _)))).mono ?_); rintro e wB ⟨rfl, hbB⟩
               have hB : Below W6.heap.size W6 wB := hA.trans (hbB.mono hA.size)))
        clear ko_0 ko_1 ko_2 ko_3 ko_4 ko_5 ko_6 ko_7 ko_8 kk_0 kk_1 kk_2 kk_3 kk_4
        have hb := hB
        have HLB := Lib.hid (HLK.out _ _ _ _ hLV hB)
        clear hA hB hbA hbB hLA hLV
        replace KR := Lib.hid (KR.out.keep hb (by omega))
        replace KO := Lib.hid (KO.out.keep hb (by omega))
        replace KX := Lib.hid (KX.out.keep hb (by omega))
        replace KZ := Lib.hid (KZ.out.keep hb (by omega))
        replace KK := Lib.hid (KK.out.keep hb (by omega))
        replace FX := Lib.hid (frozen_keep FX.out hb (by omega))
        replace FZ := Lib.hid (frozen_keep FZ.out hb (by omega))
        replace FK := Lib.hid (frozen_keep FK.out hb (by omega))
        replace zr : (w.heap.size + 1) + 1 ≤ wB.heap.size := by have := hb.size; omega
        replace zo : bo + 1 ≤ wB.heap.size := by have := hb.size; omega
        replace zx : bx + 1 ≤ wB.heap.size := by have := hb.size; omega
        replace zz : bz + 1 ≤ wB.heap.size := by have := hb.size; omega
        replace zk : bk + 1 ≤ wB.heap.size := by have := hb.size; omega
        replace HB := Lib.hid (HB.out.trans (hb.mono HB.out.size))
        clear hb
        obtain ⟨ko_0, ko_1, ko_2, ko_3, ko_4, ko_5, ko_6, ko_7, ko_8⟩ := KO.out
        obtain ⟨kk_0, kk_1, kk_2, kk_3, kk_4⟩ := KK.out
        go_wp2_with fail
        clear ko_0 ko_1 ko_2 ko_3 ko_4 ko_5 ko_6 ko_7 ko_8 kk_0 kk_1 kk_2 kk_3 kk_4
        (with_reducible refine (E4.out _ _ _ HLB.out).mono ?_)
        rintro e V9 ⟨rfl, hb⟩
        have hzz := hb.size
        replace KR := Lib.hid (KR.out.keep hb (by omega))
        replace KO := Lib.hid (KO.out.keep hb (by omega))
        replace KX := Lib.hid (KX.out.keep hb (by omega))
        replace KZ := Lib.hid (KZ.out.keep hb (by omega))
        replace KK := Lib.hid (KK.out.keep hb (by omega))
        replace FX := Lib.hid (frozen_keep FX.out hb (by omega))
        replace FZ := Lib.hid (frozen_keep FZ.out hb (by omega))
        replace FK := Lib.hid (frozen_keep FK.out hb (by omega))
        replace zr : (w.heap.size + 1) + 1 ≤ V9.heap.size := by have := hb.size; omega
        replace zo : bo + 1 ≤ V9.heap.size := by have := hb.size; omega
        replace zx : bx + 1 ≤ V9.heap.size := by have := hb.size; omega
        replace zz : bz + 1 ≤ V9.heap.size := by have := hb.size; omega
        replace zk : bk + 1 ≤ V9.heap.size := by have := hb.size; omega
        replace HB := Lib.hid (HB.out.trans (hb.mono HB.out.size))
        clear hb hzz
        go_wp2
        go_roundw
        case rel => exact ⟨k + 1, by go_num, by omega, zo, HB.out, KR.out, KO.out⟩
        case measure => simp [intOf]; omega
      · obtain rfl : k = 8 := by omega
        go_wp2
        go_ret
        exact ⟨rfl, HB.out⟩
  · have qe : (c != 0) = true := by simpa using hc0
    clear hc0
    go_wp2
    go_ret
    exact ⟨rfl, HB.out⟩
end
section
open Go.RowKit

theorem of_sized (dn : Bool) (di df : ByteArray) (k : Int) (h1 : di.size ≤ 140737488355328) (h2 : df.size ≤ 140737488355328) :
    ∃ (xn : Bool) (xi xf xI : ByteArray) (xV xW : Int) (xF xT : ByteArray) (xE : Int) (c : Int), (c = 0 → xi.size ≤ 140737488355328 ∧ xf.size ≤ 140737488355328) ∧
      (∀ wx : World, Calls Tryd.prog 28 #[.agg #[.bool dn, .string di, .string df], .int .i64 k] wx fun e w' => e = .returned (.tuple #[.agg #[.bool xn, .string xi, .string xf, .string xI, .int .i64 xV, .int .i64 xW, .string xF, .string xT, .int .i64 xE], .int .i64 c]) ∧ Below wx.heap.size wx w') ∧
      (∀ wx : World, Calls Tryd.prog 29 #[.agg #[.bool dn, .string di, .string df], .int .i64 k] wx fun e w' => e = .returned (.tuple #[.agg #[.bool xn, .string xi, .string xf, .string xI, .int .i64 xV, .int .i64 xW, .string xF, .string xT, .int .i64 xE], .int .i64 c]) ∧ Below wx.heap.size wx w') := by
  cases hb : okB dn di df with
  | false => exact ⟨_, _, _, _, _, _, _, _, _, 20, fun h => absurd h (by decide), fun wx => of_bad dn di df k wx h1 h2 hb, fun wx => refOf_err dn di df k 20 20 wx (fun wx => refCheck_bad dn di df wx h1 h2 hb) (by decide) rfl⟩
  | true =>
    obtain ⟨d, hd, rfl, rfl, rfl⟩ := ok_cases hb
    by_cases hk : 0 ≤ k ∧ k ≤ 40
    · cases ho : shD d k with
      | none => exact ⟨_, _, _, _, _, _, _, _, _, 3, fun h => absurd h (by decide), fun wx => of_none d k wx hd hk.1 hk.2 ho, fun wx => refOf_none d k wx hd hk.1 hk.2 ho⟩
      | some x =>
        have hxo := sh_ok ho
        have hm := hxo.most
        have hc := cut_len x
        exact ⟨_, _, _, _, _, _, _, _, _, 0, fun _ => ⟨by rw [dStr_size]; omega, by rw [dStr_size]; omega⟩, of_told hd hxo hk.1 hk.2 ho, fun wx => refOf_ok d x ⟨false, x.i, cutF x⟩ k wx hd hxo hk.1 hk.2 ho (absX_trim x)⟩
    · have hF : firstE 0 (ifE (decide (k < 0) || decide (40 < k)) 1) = 1 := by
        by_cases h0 : k < 0
        · rw [decide_eq_true h0]; rfl
        · rw [decide_eq_true (show 40 < k by omega), Bool.or_true]; rfl
      exact ⟨_, _, _, _, _, _, _, _, _, 1, fun h => absurd h (by decide), fun wx => of_arg d k wx hd hk, fun wx => refOf_err d.neg (dStr d.i) (dStr d.f) k 0 1 wx (fun wx => refCheck_ok d wx hd) (by decide) hF⟩
theorem spnA0 {W : World} {g : Nat} {l : List (ByteArray × ByteArray)} (h : Spn W g l) : SpnA W g 0 l := fun k hk => by
  rw [Nat.zero_add]
  exact h k hk
theorem shown_walk (dn : Bool) (di df : ByteArray) (ex : Int) (be rO rM : ByteArray) (rN rW : Bool) (ad : Option Addr) (n cap : Nat) (l : List (ByteArray × ByteArray)) (w : World)
    (h1 : di.size ≤ 140737488355328) (h2 : df.size ≤ 140737488355328) (hbe : be.size ≤ 140737488355328) (hM : rM.size ≤ 140737488355328) (hA : SpnArg w ad n l) :
    Calls Tryd.prog 6 #[.agg #[.bool dn, .string di, .string df], .int .i64 ex, .string be, .agg #[.string rO, .string rM, .bool rN, .bool rW, .slice ad n cap]] w fun e w' => e = .returned (.bool true) ∧ Below w.heap.size w w' := by
  obtain ⟨xn, xi, xf, xI, xV, xW, xG, xT, xX, c, hsz, G1, G2⟩ := of_sized dn di df ex h1 h2
  obtain ⟨o, ho⟩ : ∃ o : Value, o = .agg #[.bool xn, .string xi, .string xf, .string xI, .int .i64 xV, .int .i64 xW, .string xG, .string xT, .int .i64 xX] := ⟨_, rfl⟩
  have HM : c = 0 → ∀ i, i < 8 → ∃ (mn : Bool) (mi mf : ByteArray) (d : Int), ModP o (letS i) be (.tuple #[.agg #[.bool mn, .string mi, .string mf], .int .i64 d]) ∧ ModR o (letS i) be (.tuple #[.agg #[.bool mn, .string mi, .string mf], .int .i64 d]) := fun hc i _ => by
    rcases mod_both xn xi xf xI xV xW xG xT xX (letS i) be (hsz hc).1 (hsz hc).2 hbe o ho with ⟨a, b⟩ | ⟨x, _, _, a, b⟩
    · exact ⟨_, _, _, _, a, b⟩
    · exact ⟨_, _, _, _, a, b⟩
  rcases hA with h0 | ⟨n1, hn, hl, g, off, rfl, hg, hS, hz⟩
  · subst h0
    have HI := fun (hc : c = 0) (i : Nat) => in_both_none xn xi xf xI xV xW xG xT xX (letS i) rM rN rW (hsz hc).1 (hsz hc).2 hM o ho
    subst ho
    exact os_core dn di df ex be rO rM rN rW ad 0 cap xn xi xf xI xV xW xG xT xX c (fun W g1 _ => g1 < W.heap.size) w G1 G2
      (fun W W' g1 c1 h hb => by have := hb.size; show g1 < W'.heap.size; have h' : g1 < W.heap.size := h; omega)
      (fun wx hb => (copied_none rO rM rN rW ad cap wx).mono fun e w' ⟨g', cap', he, hb', hlt⟩ => ⟨g', cap', he, hb', hlt⟩)
      (fun wx L g1 c1 _ => (copied_none L rM rN rW (some ⟨g1, 0, none⟩) c1 wx).mono fun e w' ⟨g', cap', he, hb', hlt⟩ => ⟨g', cap', he, hb', hlt⟩)
      HM (fun hc i _ => ⟨false, 40, fun wx g1 c1 h => (HI hc i).1 g1 c1 wx h, fun wx g1 c1 _ => (HI hc i).2 (some ⟨g1, 0, none⟩) c1 wx⟩)
  · have HI := fun (hc : c = 0) (i : Nat) => in_both xn xi xf xI xV xW xG xT xX (letS i) rM rN rW (hsz hc).1 (hsz hc).2 hM o ho l n hl n1 hz
    subst ho
    exact os_core dn di df ex be rO rM rN rW (some ⟨g, off, none⟩) n cap xn xi xf xI xV xW xG xT xX c (fun W g1 _ => g1 < W.heap.size ∧ Spn W g1 l) w G1 G2
      (fun W W' g1 c1 h hb => ⟨by have := hb.size; have h' := h.1; omega, h.2.keep hb h.1⟩)
      (fun wx hb => (copied_any rO rM rN rW g off n cap l wx (hS.keep hb hg) (by have := hb.size; omega) hl n1 hn).mono fun e w' ⟨g', cap', he, hb', hlt, hsp⟩ => ⟨g', cap', he, hb', hlt, hsp⟩)
      (fun wx L g1 c1 h => (copied_any L rM rN rW g1 0 n c1 l wx (spnA0 h.2) h.1 hl n1 hn).mono fun e w' ⟨g', cap', he, hb', hlt, hsp⟩ => ⟨g', cap', he, hb', hlt, hsp⟩)
      HM (fun hc i _ => by
        obtain ⟨v, k, I1, I2⟩ := HI hc i
        exact ⟨v, k, fun wx g1 c1 h => I1 g1 c1 wx h.2 h.1, fun wx g1 c1 h => I2 g1 0 c1 wx (spnA0 h.2) h.1⟩)
end
end Go.Proofs.YtpbljcjghjbjdaaDoor
