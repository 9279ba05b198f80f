/- compareToHalf. -/
import Derived.Test.YtpbljcjghjbjdaaDoorRoSign
import Derived.Deep.RegionWith
namespace Go.Proofs.YtpbljcjghjbjdaaDoor
open Go.RowKit
attribute [local go_sem ↓] Go.wp_at_zero Go.wp_at_succ

set_option maxHeartbeats 4000000 in
set_option maxRecDepth 100000 in
theorem half_ok (r u : Dc) (w : World) (hr : r.Ok) (hu : u.Ok) (hun : u.neg = false) (hf : u.f.length ≤ r.f.length) (h0 : r.num ≠ 0) (hlt : r.num < u.raised r.f.length) :
    Calls Tryd.prog 191 #[.agg #[.bool r.neg, .string (dStr r.i), .string (dStr r.f)], .agg #[.bool false, .string (dStr u.i), .string (dStr u.f)]] w fun e w' => e = .returned (.int .i64 (cmpN (2 * r.num) (u.raised r.f.length))) ∧ Below w.heap.size w w' := by
  have HC := Lib.hid (half_cmp (Nat.pos_of_ne_zero h0) hlt)
  have hs : max u.f.length (rAbs r).f.length = r.f.length := by show max u.f.length r.f.length = _; omega
  have hra : (rAbs r).raised r.f.length = r.num := by unfold Dc.raised; rw [show (rAbs r).f.length = r.f.length from rfl, Nat.sub_self, Nat.pow_zero, Nat.mul_one]; rfl
  have hq : quoD u (rAbs r) = mkN false (u.raised r.f.length / r.num) 0 := by
    have := quo_ref u (rAbs r) rfl
    rw [hs, hra, hun] at this
    exact this.symm
  have DQ : Hid (∀ wx : World, Calls Tryd.prog 200 #[.agg #[.bool false, .string (dStr u.i), .string (dStr u.f)], .agg #[.bool false, .string (dStr r.i), .string (dStr r.f)]] wx fun e w' => e = .returned (.tuple #[.agg #[.bool (oN (mkN false (u.raised r.f.length / r.num) 0)), .string (oI (mkN false (u.raised r.f.length / r.num) 0)), .string (oF (mkN false (u.raised r.f.length / r.num) 0))], .int .i64 (oE (mkN false (u.raised r.f.length / r.num) 0))]) ∧ Below wx.heap.size wx w') := fun wx => by
    have := div_ok u (rAbs r) wx _ hq hu (rAbs_ok hr) h0
    rw [hun] at this
    exact this
  obtain ⟨l, hl⟩ := rem_room hu (rAbs_ok hr) (fun e => h0 ((znum (rAbs r)).1 e))
  have hlok := (mk_some hl).2.2.1
  have hlz : l.num = u.raised r.f.length % r.num := by
    have h := rem_ref u (rAbs r) rfl
    rw [hs, hra, hun, hl] at h
    have := (mk_some h).2.2.2.1
    rw [this]
    rfl
  have DR : Hid (∀ wx : World, Calls Tryd.prog 58 #[.agg #[.bool false, .string (dStr u.i), .string (dStr u.f)], .agg #[.bool false, .string (dStr r.i), .string (dStr r.f)]] wx fun e w' => e = .returned (.tuple #[.agg #[.bool l.neg, .string (dStr l.i), .string (dStr l.f)], .int .i64 0]) ∧ Below wx.heap.size wx w') := fun wx => by
    have := rem_ok u (rAbs r) wx (some l) hl hu (rAbs_ok hr) h0
    rw [hun] at this
    exact this
  have DS := Lib.hid (fun wx => sign_ok l wx hlok)
  have HSZ : Hid (l.z.sign = 0 ↔ u.raised r.f.length % r.num = 0) := by show _ ↔ _; rw [sign_zero, hlz]
  generalize l.z.sign = sl at *
  generalize dStr l.i = li at *
  generalize dStr l.f = lf at *
  generalize l.neg = ln at *
  obtain ⟨Z1, hZ1⟩ : ∃ Z, Z = dStr (digs 1) := ⟨_, rfl⟩
  obtain ⟨Z2, hZ2⟩ : ∃ Z, Z = dStr (digs 2) := ⟨_, rfl⟩
  have DO1 : Hid (∀ wx : World, Calls Tryd.prog 12 #[.int .i64 1] wx fun e w' => e = .returned (.agg #[.bool false, .string Z1, .string ⟨#[]⟩]) ∧ Below wx.heap.size wx w') := fun wx => of_lit 1 Z1 wx hZ1 (by omega)
  have DO2 : Hid (∀ wx : World, Calls Tryd.prog 12 #[.int .i64 2] wx fun e w' => e = .returned (.agg #[.bool false, .string Z2, .string ⟨#[]⟩]) ∧ Below wx.heap.size wx w') := fun wx => of_lit 2 Z2 wx hZ2 (by omega)
  have wm : IntKind.i64.wrap (-1) = -1 := by decide
  generalize u.raised r.f.length / r.num = T at *
  generalize u.raised r.f.length % r.num = M at *
  generalize cmpN (2 * r.num) (u.raised r.f.length) = res at *
  by_cases hT : 10 ^ 40 ≤ T
  · have hn : mkN false T 0 = none := mk_none.2 (.inr (by simpa using hT))
    rw [hn] at DQ
    have HR : Hid (res = -1) := by
      show _ = _
      rw [HC.out, if_neg, if_neg]
      · rintro ⟨h, -⟩; rw [h] at hT; exact absurd hT (by decide)
      · intro h; rw [h] at hT; exact absurd hT (by decide)
    have q3 : ((3 : Int) != 0) = true := by decide
    clear hr hu hun hf h0 hlt hs hra hq hl hlok hlz hZ1 hZ2 hn hT
    go_enter Tryd.func191, Tryd.ntmps191
    go_wp2_with fail
    obtain ⟨W2, hW2⟩ : ∃ W2, W2 = ((w.alloc (.cells #[.bool false, .string (dStr r.i), .string (dStr r.f)] 23)).alloc (.cells #[.bool false, .string (dStr u.i), .string (dStr u.f)] 23)) := ⟨_, rfl⟩
    obtain ⟨hb2, hz2, CA, CB, _⟩ : Below w.heap.size w W2 ∧ w.heap.size + 2 ≤ W2.heap.size ∧ Cells3 W2 w.heap.size (.bool false) (.string (dStr r.i)) (.string (dStr r.f)) ∧ Cells3 W2 (w.heap.size + 1) (.bool false) (.string (dStr u.i)) (.string (dStr u.f)) ∧ ∀ i, W2.frozen? ⟨w.heap.size + 1, i, none⟩ = false := by rw [hW2]; exact ⟨below_two w _ _, two_boxes w _ _ _ _ _ _ _⟩
    rw [← hW2]
    clear hW2
    (with_reducible refine (DQ.out _).mono ?_)
    rintro e V3 ⟨rfl, hb3⟩
    have CA := Lib.hid (CA.keep hb3 (by omega))
    have CB := Lib.hid (CB.keep hb3 (by omega))
    have hz3 : w.heap.size + 2 ≤ V3.heap.size := by have := hb3.size; omega
    have B3 := Lib.hid (hb2.trans (hb3.mono hb2.size))
    clear hb3 hb2 hz2
    go_wp2
    go_ret
    exact ⟨ret_int HR.out.symm, B3.out.alloc B3.out.size _⟩
  · have hn : mkN false T 0 = some (natD T) := mk_nat T (by omega)
    rw [hn] at DQ
    obtain ⟨Q, hQ⟩ : ∃ Q, Q = dStr (digs T) := ⟨_, rfl⟩
    have DQ2 : Hid (∀ wx : World, Calls Tryd.prog 200 #[.agg #[.bool false, .string (dStr u.i), .string (dStr u.f)], .agg #[.bool false, .string (dStr r.i), .string (dStr r.f)]] wx fun e w' => e = .returned (.tuple #[.agg #[.bool false, .string Q, .string ⟨#[]⟩], .int .i64 0]) ∧ Below wx.heap.size wx w') := by rw [hQ]; exact DQ.out
    have q0 : ((0 : Int) != 0) = false := by decide
    by_cases t1 : T = 1
    · have q1 : (Q.toList == Z1.toList) = true := by rw [hQ, hZ1, t1]; exact beq_self_eq_true _
      have HR : Hid (res = 1) := by show _ = _; rw [HC.out, if_pos t1]
      clear hr hu hun hf h0 hlt hs hra hq hl hlok hlz hZ1 hZ2 hn hT t1 hQ
      go_enter Tryd.func191, Tryd.ntmps191
      go_wp2_with fail
      obtain ⟨W2, hW2⟩ : ∃ W2, W2 = ((w.alloc (.cells #[.bool false, .string (dStr r.i), .string (dStr r.f)] 23)).alloc (.cells #[.bool false, .string (dStr u.i), .string (dStr u.f)] 23)) := ⟨_, rfl⟩
      obtain ⟨hb2, hz2, CA, CB, _⟩ : Below w.heap.size w W2 ∧ w.heap.size + 2 ≤ W2.heap.size ∧ Cells3 W2 w.heap.size (.bool false) (.string (dStr r.i)) (.string (dStr r.f)) ∧ Cells3 W2 (w.heap.size + 1) (.bool false) (.string (dStr u.i)) (.string (dStr u.f)) ∧ ∀ i, W2.frozen? ⟨w.heap.size + 1, i, none⟩ = false := by rw [hW2]; exact ⟨below_two w _ _, two_boxes w _ _ _ _ _ _ _⟩
      rw [← hW2]
      clear hW2
      (with_reducible refine (DQ2.out _).mono ?_)
      rintro e V3 ⟨rfl, hb3⟩
      have CA := Lib.hid (CA.keep hb3 (by omega))
      have CB := Lib.hid (CB.keep hb3 (by omega))
      have hz3 : w.heap.size + 2 ≤ V3.heap.size := by have := hb3.size; omega
      have B3 := Lib.hid (hb2.trans (hb3.mono hb2.size))
      clear hb3 hb2 hz2
      go_wp2_with fail
      obtain ⟨W4, hW4⟩ : ∃ W4, W4 = V3.alloc (.cells #[.bool false, .string Q, .string ⟨#[]⟩] 23) := ⟨_, rfl⟩
      obtain ⟨hb4, hz4, CQ, _⟩ : Below V3.heap.size V3 W4 ∧ V3.heap.size + 1 ≤ W4.heap.size ∧ Cells3 W4 V3.heap.size (.bool false) (.string Q) (.string ⟨#[]⟩) ∧ ∀ i, W4.frozen? ⟨V3.heap.size, i, none⟩ = false := by rw [hW4]; exact ⟨(Below.refl _ _).alloc (Nat.le_refl _) _, one_box V3 _ _ _ _⟩
      rw [← hW4]
      clear hW4
      have CA := Lib.hid (CA.out.keep hb4 (by omega))
      have CB := Lib.hid (CB.out.keep hb4 (by omega))
      have B4 := Lib.hid (B3.out.trans (hb4.mono B3.out.size))
      clear hb4
      obtain ⟨c0, c1, c2⟩ := CQ
      have CQ := Lib.hid (show Cells3 W4 V3.heap.size _ _ _ from ⟨c0, c1, c2⟩)
      go_region_held3 (fun w' => w'.cell? ⟨V3.heap.size, 0, none⟩ = some (.bool false) ∧ w'.cell? ⟨V3.heap.size, 1, none⟩ = some (.string Q) ∧ w'.cell? ⟨V3.heap.size, 2, none⟩ = some (.string ⟨#[]⟩))
        (first
          | exact ⟨c0, c1, c2⟩
          | (have t := CQ.out.keep (undrew hbA) (by omega); exact ⟨t.1, t.2.1, t.2.2⟩)
          | go_keep)
        (first | (go_at_call 12; (with_reducible refine (DO1.out _).mono ?_); rintro e wA ⟨rfl, hbA⟩))
      have hA := undrew hbA
      clear hbA c0 c1 c2
      go_wp2
      go_ret
      exact ⟨ret_int HR.out.symm, B4.out.trans (hA.mono B4.out.size)⟩
    · have q1 : (Q.toList == Z1.toList) = false := by rw [hQ, hZ1]; exact nat_str t1
      by_cases t2 : T = 2
      · have q2 : (Q.toList == Z2.toList) = true := by rw [hQ, hZ2, t2]; exact beq_self_eq_true _
        by_cases m0 : M = 0
        · have q3 : (sl == 0) = true := beq_iff_eq.2 (HSZ.out.2 m0)
          have HR : Hid (res = 0) := by show _ = _; rw [HC.out, if_neg t1, if_pos ⟨t2, m0⟩]
          clear hr hu hun hf h0 hlt hs hra hq hl hlok hlz hZ1 hZ2 hn hT t1 t2 hQ m0
          go_enter Tryd.func191, Tryd.ntmps191
          go_wp2_with fail
          obtain ⟨W2, hW2⟩ : ∃ W2, W2 = ((w.alloc (.cells #[.bool false, .string (dStr r.i), .string (dStr r.f)] 23)).alloc (.cells #[.bool false, .string (dStr u.i), .string (dStr u.f)] 23)) := ⟨_, rfl⟩
          obtain ⟨hb2, hz2, CA, CB, _⟩ : Below w.heap.size w W2 ∧ w.heap.size + 2 ≤ W2.heap.size ∧ Cells3 W2 w.heap.size (.bool false) (.string (dStr r.i)) (.string (dStr r.f)) ∧ Cells3 W2 (w.heap.size + 1) (.bool false) (.string (dStr u.i)) (.string (dStr u.f)) ∧ ∀ i, W2.frozen? ⟨w.heap.size + 1, i, none⟩ = false := by rw [hW2]; exact ⟨below_two w _ _, two_boxes w _ _ _ _ _ _ _⟩
          rw [← hW2]
          clear hW2
          (with_reducible refine (DQ2.out _).mono ?_)
          rintro e V3 ⟨rfl, hb3⟩
          have CA := Lib.hid (CA.keep hb3 (by omega))
          have CB := Lib.hid (CB.keep hb3 (by omega))
          have hz3 : w.heap.size + 2 ≤ V3.heap.size := by have := hb3.size; omega
          have B3 := Lib.hid (hb2.trans (hb3.mono hb2.size))
          clear hb3 hb2 hz2
          go_wp2_with fail
          obtain ⟨W4, hW4⟩ : ∃ W4, W4 = V3.alloc (.cells #[.bool false, .string Q, .string ⟨#[]⟩] 23) := ⟨_, rfl⟩
          obtain ⟨hb4, hz4, CQ, _⟩ : Below V3.heap.size V3 W4 ∧ V3.heap.size + 1 ≤ W4.heap.size ∧ Cells3 W4 V3.heap.size (.bool false) (.string Q) (.string ⟨#[]⟩) ∧ ∀ i, W4.frozen? ⟨V3.heap.size, i, none⟩ = false := by rw [hW4]; exact ⟨(Below.refl _ _).alloc (Nat.le_refl _) _, one_box V3 _ _ _ _⟩
          rw [← hW4]
          clear hW4
          have CA := Lib.hid (CA.out.keep hb4 (by omega))
          have CB := Lib.hid (CB.out.keep hb4 (by omega))
          have B4 := Lib.hid (B3.out.trans (hb4.mono B3.out.size))
          clear hb4
          obtain ⟨c0, c1, c2⟩ := CQ
          have CQ := Lib.hid (show Cells3 W4 V3.heap.size _ _ _ from ⟨c0, c1, c2⟩)
          go_region_held3 (fun w' => w'.cell? ⟨V3.heap.size, 0, none⟩ = some (.bool false) ∧ w'.cell? ⟨V3.heap.size, 1, none⟩ = some (.string Q) ∧ w'.cell? ⟨V3.heap.size, 2, none⟩ = some (.string ⟨#[]⟩))
            (first
              | exact ⟨c0, c1, c2⟩
              | (have t := CQ.out.keep (undrew hbA) (by omega); exact ⟨t.1, t.2.1, t.2.2⟩)
              | go_keep)
            (first | (go_at_call 12; (with_reducible refine (DO1.out _).mono ?_); rintro e wA ⟨rfl, hbA⟩))
          have hA := undrew hbA
          clear hbA c0 c1 c2
          have CA := Lib.hid (CA.out.keep hA (by omega))
          have CB := Lib.hid (CB.out.keep hA (by omega))
          have CQ := Lib.hid (CQ.out.keep hA (by omega))
          have hz5 : V3.heap.size + 1 ≤ wA.heap.size := by have := hA.size; omega
          have B5 := Lib.hid (B4.out.trans (hA.mono B4.out.size))
          clear hA
          obtain ⟨a0, a1, a2⟩ := CA.out
          obtain ⟨b0, b1, b2⟩ := CB.out
          go_wp2_with fail
          (with_reducible refine (DR.out _).mono ?_)
          rintro e V6 ⟨rfl, hb6⟩
          clear a0 a1 a2 b0 b1 b2
          have CQ := Lib.hid (CQ.out.keep hb6 (by omega))
          have hz6 : V3.heap.size + 1 ≤ V6.heap.size := by have := hb6.size; omega
          have B6 := Lib.hid (B5.out.trans (hb6.mono B5.out.size))
          clear hb6 CA CB
          go_wp2_with fail
          obtain ⟨W7, hW7⟩ : ∃ W7, W7 = V6.alloc (.cells #[.bool ln, .string li, .string lf] 23) := ⟨_, rfl⟩
          obtain ⟨hb7, hz7, CL, _⟩ : Below V6.heap.size V6 W7 ∧ V6.heap.size + 1 ≤ W7.heap.size ∧ Cells3 W7 V6.heap.size (.bool ln) (.string li) (.string lf) ∧ ∀ i, W7.frozen? ⟨V6.heap.size, i, none⟩ = false := by rw [hW7]; exact ⟨(Below.refl _ _).alloc (Nat.le_refl _) _, one_box V6 _ _ _ _⟩
          rw [← hW7]
          clear hW7
          have CQ := Lib.hid (CQ.out.keep hb7 (by omega))
          have B7 := Lib.hid (B6.out.trans (hb7.mono B6.out.size))
          have hz8 : V3.heap.size + 1 ≤ W7.heap.size := by omega
          clear hb7
          obtain ⟨c0, c1, c2⟩ := CQ.out
          obtain ⟨l0, l1, l2⟩ := CL
          have CL := Lib.hid (show Cells3 W7 V6.heap.size _ _ _ from ⟨l0, l1, l2⟩)
          go_region_held3 (fun w' => (w'.cell? ⟨V3.heap.size, 0, none⟩ = some (.bool false) ∧ w'.cell? ⟨V3.heap.size, 1, none⟩ = some (.string Q) ∧ w'.cell? ⟨V3.heap.size, 2, none⟩ = some (.string ⟨#[]⟩)) ∧ (w'.cell? ⟨V6.heap.size, 0, none⟩ = some (.bool ln) ∧ w'.cell? ⟨V6.heap.size, 1, none⟩ = some (.string li) ∧ w'.cell? ⟨V6.heap.size, 2, none⟩ = some (.string lf)))
            (first
              | exact ⟨⟨c0, c1, c2⟩, ⟨l0, l1, l2⟩⟩
              | (have t := CQ.out.keep hb9 (by omega); have v := CL.out.keep hb9 (by omega); exact ⟨⟨t.1, t.2.1, t.2.2⟩, ⟨v.1, v.2.1, v.2.2⟩⟩)
              | (have t := CQ.out.keep (undrew hbA) (by omega); have v := CL.out.keep (undrew hbA) (by omega); exact ⟨⟨t.1, t.2.1, t.2.2⟩, ⟨v.1, v.2.1, v.2.2⟩⟩)
              | go_keep)
            (first
              | (go_at_call 12; (with_reducible refine (DO2.out _).mono ?_); rintro e wX ⟨rfl, hbA⟩)
              | (go_at_call 175; (with_reducible refine (DS.out _).mono ?_); rintro e wY ⟨rfl, hbB⟩
                 have hb9 : Below W7.heap.size W7 wY := (undrew hbA).trans (hbB.mono (undrew hbA).size)))
          go_wp2
          go_ret
          exact ⟨ret_int HR.out.symm, B7.out.trans (hb9.mono B7.out.size)⟩
        · have q3 : (sl == 0) = false := beq_eq_false_iff_ne.2 (fun e => m0 (HSZ.out.1 e))
          have HR : Hid (res = -1) := by show _ = _; rw [HC.out, if_neg t1, if_neg (fun h => m0 h.2)]
          clear hr hu hun hf h0 hlt hs hra hq hl hlok hlz hZ1 hZ2 hn hT t1 t2 hQ m0
          go_enter Tryd.func191, Tryd.ntmps191
          go_wp2_with fail
          obtain ⟨W2, hW2⟩ : ∃ W2, W2 = ((w.alloc (.cells #[.bool false, .string (dStr r.i), .string (dStr r.f)] 23)).alloc (.cells #[.bool false, .string (dStr u.i), .string (dStr u.f)] 23)) := ⟨_, rfl⟩
          obtain ⟨hb2, hz2, CA, CB, _⟩ : Below w.heap.size w W2 ∧ w.heap.size + 2 ≤ W2.heap.size ∧ Cells3 W2 w.heap.size (.bool false) (.string (dStr r.i)) (.string (dStr r.f)) ∧ Cells3 W2 (w.heap.size + 1) (.bool false) (.string (dStr u.i)) (.string (dStr u.f)) ∧ ∀ i, W2.frozen? ⟨w.heap.size + 1, i, none⟩ = false := by rw [hW2]; exact ⟨below_two w _ _, two_boxes w _ _ _ _ _ _ _⟩
          rw [← hW2]
          clear hW2
          (with_reducible refine (DQ2.out _).mono ?_)
          rintro e V3 ⟨rfl, hb3⟩
          have CA := Lib.hid (CA.keep hb3 (by omega))
          have CB := Lib.hid (CB.keep hb3 (by omega))
          have hz3 : w.heap.size + 2 ≤ V3.heap.size := by have := hb3.size; omega
          have B3 := Lib.hid (hb2.trans (hb3.mono hb2.size))
          clear hb3 hb2 hz2
          go_wp2_with fail
          obtain ⟨W4, hW4⟩ : ∃ W4, W4 = V3.alloc (.cells #[.bool false, .string Q, .string ⟨#[]⟩] 23) := ⟨_, rfl⟩
          obtain ⟨hb4, hz4, CQ, _⟩ : Below V3.heap.size V3 W4 ∧ V3.heap.size + 1 ≤ W4.heap.size ∧ Cells3 W4 V3.heap.size (.bool false) (.string Q) (.string ⟨#[]⟩) ∧ ∀ i, W4.frozen? ⟨V3.heap.size, i, none⟩ = false := by rw [hW4]; exact ⟨(Below.refl _ _).alloc (Nat.le_refl _) _, one_box V3 _ _ _ _⟩
          rw [← hW4]
          clear hW4
          have CA := Lib.hid (CA.out.keep hb4 (by omega))
          have CB := Lib.hid (CB.out.keep hb4 (by omega))
          have B4 := Lib.hid (B3.out.trans (hb4.mono B3.out.size))
          clear hb4
          obtain ⟨c0, c1, c2⟩ := CQ
          have CQ := Lib.hid (show Cells3 W4 V3.heap.size _ _ _ from ⟨c0, c1, c2⟩)
          go_region_held3 (fun w' => w'.cell? ⟨V3.heap.size, 0, none⟩ = some (.bool false) ∧ w'.cell? ⟨V3.heap.size, 1, none⟩ = some (.string Q) ∧ w'.cell? ⟨V3.heap.size, 2, none⟩ = some (.string ⟨#[]⟩))
            (first
              | exact ⟨c0, c1, c2⟩
              | (have t := CQ.out.keep (undrew hbA) (by omega); exact ⟨t.1, t.2.1, t.2.2⟩)
              | go_keep)
            (first | (go_at_call 12; (with_reducible refine (DO1.out _).mono ?_); rintro e wA ⟨rfl, hbA⟩))
          have hA := undrew hbA
          clear hbA c0 c1 c2
          have CA := Lib.hid (CA.out.keep hA (by omega))
          have CB := Lib.hid (CB.out.keep hA (by omega))
          have CQ := Lib.hid (CQ.out.keep hA (by omega))
          have hz5 : V3.heap.size + 1 ≤ wA.heap.size := by have := hA.size; omega
          have B5 := Lib.hid (B4.out.trans (hA.mono B4.out.size))
          clear hA
          obtain ⟨a0, a1, a2⟩ := CA.out
          obtain ⟨b0, b1, b2⟩ := CB.out
          go_wp2_with fail
          (with_reducible refine (DR.out _).mono ?_)
          rintro e V6 ⟨rfl, hb6⟩
          clear a0 a1 a2 b0 b1 b2
          have CQ := Lib.hid (CQ.out.keep hb6 (by omega))
          have hz6 : V3.heap.size + 1 ≤ V6.heap.size := by have := hb6.size; omega
          have B6 := Lib.hid (B5.out.trans (hb6.mono B5.out.size))
          clear hb6 CA CB
          go_wp2_with fail
          obtain ⟨W7, hW7⟩ : ∃ W7, W7 = V6.alloc (.cells #[.bool ln, .string li, .string lf] 23) := ⟨_, rfl⟩
          obtain ⟨hb7, hz7, CL, _⟩ : Below V6.heap.size V6 W7 ∧ V6.heap.size + 1 ≤ W7.heap.size ∧ Cells3 W7 V6.heap.size (.bool ln) (.string li) (.string lf) ∧ ∀ i, W7.frozen? ⟨V6.heap.size, i, none⟩ = false := by rw [hW7]; exact ⟨(Below.refl _ _).alloc (Nat.le_refl _) _, one_box V6 _ _ _ _⟩
          rw [← hW7]
          clear hW7
          have CQ := Lib.hid (CQ.out.keep hb7 (by omega))
          have B7 := Lib.hid (B6.out.trans (hb7.mono B6.out.size))
          have hz8 : V3.heap.size + 1 ≤ W7.heap.size := by omega
          clear hb7
          obtain ⟨c0, c1, c2⟩ := CQ.out
          obtain ⟨l0, l1, l2⟩ := CL
          have CL := Lib.hid (show Cells3 W7 V6.heap.size _ _ _ from ⟨l0, l1, l2⟩)
          go_region_held3 (fun w' => (w'.cell? ⟨V3.heap.size, 0, none⟩ = some (.bool false) ∧ w'.cell? ⟨V3.heap.size, 1, none⟩ = some (.string Q) ∧ w'.cell? ⟨V3.heap.size, 2, none⟩ = some (.string ⟨#[]⟩)) ∧ (w'.cell? ⟨V6.heap.size, 0, none⟩ = some (.bool ln) ∧ w'.cell? ⟨V6.heap.size, 1, none⟩ = some (.string li) ∧ w'.cell? ⟨V6.heap.size, 2, none⟩ = some (.string lf)))
            (first
              | exact ⟨⟨c0, c1, c2⟩, ⟨l0, l1, l2⟩⟩
              | (have t := CQ.out.keep hb9 (by omega); have v := CL.out.keep hb9 (by omega); exact ⟨⟨t.1, t.2.1, t.2.2⟩, ⟨v.1, v.2.1, v.2.2⟩⟩)
              | (have t := CQ.out.keep (undrew hbA) (by omega); have v := CL.out.keep (undrew hbA) (by omega); exact ⟨⟨t.1, t.2.1, t.2.2⟩, ⟨v.1, v.2.1, v.2.2⟩⟩)
              | go_keep)
            (first
              | (go_at_call 12; (with_reducible refine (DO2.out _).mono ?_); rintro e wX ⟨rfl, hbA⟩)
              | (go_at_call 175; (with_reducible refine (DS.out _).mono ?_); rintro e wY ⟨rfl, hbB⟩
                 have hb9 : Below W7.heap.size W7 wY := (undrew hbA).trans (hbB.mono (undrew hbA).size)))
          go_wp2
          go_ret
          exact ⟨ret_int HR.out.symm, B7.out.trans (hb9.mono B7.out.size)⟩
      · have q2 : (Q.toList == Z2.toList) = false := by rw [hQ, hZ2]; exact nat_str t2
        have HR : Hid (res = -1) := by show _ = _; rw [HC.out, if_neg t1, if_neg (fun h => t2 h.1)]
        clear hr hu hun hf h0 hlt hs hra hq hl hlok hlz hZ1 hZ2 hn hT t1 t2 hQ
        go_enter Tryd.func191, Tryd.ntmps191
        go_wp2_with fail
        obtain ⟨W2, hW2⟩ : ∃ W2, W2 = ((w.alloc (.cells #[.bool false, .string (dStr r.i), .string (dStr r.f)] 23)).alloc (.cells #[.bool false, .string (dStr u.i), .string (dStr u.f)] 23)) := ⟨_, rfl⟩
        obtain ⟨hb2, hz2, CA, CB, _⟩ : Below w.heap.size w W2 ∧ w.heap.size + 2 ≤ W2.heap.size ∧ Cells3 W2 w.heap.size (.bool false) (.string (dStr r.i)) (.string (dStr r.f)) ∧ Cells3 W2 (w.heap.size + 1) (.bool false) (.string (dStr u.i)) (.string (dStr u.f)) ∧ ∀ i, W2.frozen? ⟨w.heap.size + 1, i, none⟩ = false := by rw [hW2]; exact ⟨below_two w _ _, two_boxes w _ _ _ _ _ _ _⟩
        rw [← hW2]
        clear hW2
        (with_reducible refine (DQ2.out _).mono ?_)
        rintro e V3 ⟨rfl, hb3⟩
        have CA := Lib.hid (CA.keep hb3 (by omega))
        have CB := Lib.hid (CB.keep hb3 (by omega))
        have hz3 : w.heap.size + 2 ≤ V3.heap.size := by have := hb3.size; omega
        have B3 := Lib.hid (hb2.trans (hb3.mono hb2.size))
        clear hb3 hb2 hz2
        go_wp2_with fail
        obtain ⟨W4, hW4⟩ : ∃ W4, W4 = V3.alloc (.cells #[.bool false, .string Q, .string ⟨#[]⟩] 23) := ⟨_, rfl⟩
        obtain ⟨hb4, hz4, CQ, _⟩ : Below V3.heap.size V3 W4 ∧ V3.heap.size + 1 ≤ W4.heap.size ∧ Cells3 W4 V3.heap.size (.bool false) (.string Q) (.string ⟨#[]⟩) ∧ ∀ i, W4.frozen? ⟨V3.heap.size, i, none⟩ = false := by rw [hW4]; exact ⟨(Below.refl _ _).alloc (Nat.le_refl _) _, one_box V3 _ _ _ _⟩
        rw [← hW4]
        clear hW4
        have CA := Lib.hid (CA.out.keep hb4 (by omega))
        have CB := Lib.hid (CB.out.keep hb4 (by omega))
        have B4 := Lib.hid (B3.out.trans (hb4.mono B3.out.size))
        clear hb4
        obtain ⟨c0, c1, c2⟩ := CQ
        have CQ := Lib.hid (show Cells3 W4 V3.heap.size _ _ _ from ⟨c0, c1, c2⟩)
        go_region_held3 (fun w' => w'.cell? ⟨V3.heap.size, 0, none⟩ = some (.bool false) ∧ w'.cell? ⟨V3.heap.size, 1, none⟩ = some (.string Q) ∧ w'.cell? ⟨V3.heap.size, 2, none⟩ = some (.string ⟨#[]⟩))
          (first
            | exact ⟨c0, c1, c2⟩
            | (have t := CQ.out.keep (undrew hbA) (by omega); exact ⟨t.1, t.2.1, t.2.2⟩)
            | go_keep)
          (first | (go_at_call 12; (with_reducible refine (DO1.out _).mono ?_); rintro e wA ⟨rfl, hbA⟩))
        have hA := undrew hbA
        clear hbA c0 c1 c2
        have CA := Lib.hid (CA.out.keep hA (by omega))
        have CB := Lib.hid (CB.out.keep hA (by omega))
        have CQ := Lib.hid (CQ.out.keep hA (by omega))
        have hz5 : V3.heap.size + 1 ≤ wA.heap.size := by have := hA.size; omega
        have B5 := Lib.hid (B4.out.trans (hA.mono B4.out.size))
        clear hA
        obtain ⟨a0, a1, a2⟩ := CA.out
        obtain ⟨b0, b1, b2⟩ := CB.out
        go_wp2_with fail
        (with_reducible refine (DR.out _).mono ?_)
        rintro e V6 ⟨rfl, hb6⟩
        clear a0 a1 a2 b0 b1 b2
        have CQ := Lib.hid (CQ.out.keep hb6 (by omega))
        have hz6 : V3.heap.size + 1 ≤ V6.heap.size := by have := hb6.size; omega
        have B6 := Lib.hid (B5.out.trans (hb6.mono B5.out.size))
        clear hb6 CA CB
        go_wp2_with fail
        obtain ⟨W7, hW7⟩ : ∃ W7, W7 = V6.alloc (.cells #[.bool ln, .string li, .string lf] 23) := ⟨_, rfl⟩
        obtain ⟨hb7, hz7, CL, _⟩ : Below V6.heap.size V6 W7 ∧ V6.heap.size + 1 ≤ W7.heap.size ∧ Cells3 W7 V6.heap.size (.bool ln) (.string li) (.string lf) ∧ ∀ i, W7.frozen? ⟨V6.heap.size, i, none⟩ = false := by rw [hW7]; exact ⟨(Below.refl _ _).alloc (Nat.le_refl _) _, one_box V6 _ _ _ _⟩
        rw [← hW7]
        clear hW7
        have CQ := Lib.hid (CQ.out.keep hb7 (by omega))
        have B7 := Lib.hid (B6.out.trans (hb7.mono B6.out.size))
        have hz8 : V3.heap.size + 1 ≤ W7.heap.size := by omega
        clear hb7
        obtain ⟨c0, c1, c2⟩ := CQ.out
        obtain ⟨l0, l1, l2⟩ := CL
        have CL := Lib.hid (show Cells3 W7 V6.heap.size _ _ _ from ⟨l0, l1, l2⟩)
        go_region_with (go_at_call 12; (with_reducible refine (DO2.out _).mono ?_); rintro e wX ⟨rfl, hbA⟩; obtain ⟨x0, x1, x2⟩ := CQ.out.keep (undrew hbA) (by omega); obtain ⟨y0, y1, y2⟩ := CL.out.keep (undrew hbA) (by omega))
        all_goals
          go_wp2
          go_ret
          exact ⟨ret_int HR.out.symm, B7.out.trans ((undrew hbA).mono B7.out.size)⟩
end Go.Proofs.YtpbljcjghjbjdaaDoor
