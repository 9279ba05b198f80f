/- isOdd. -/
import Derived.Test.YtpbljcjghjbjdaaDoorRoSign
namespace Go.Proofs.YtpbljcjghjbjdaaDoor
open Go.RowKit
attribute [local go_sem ↓] Go.wp_at_zero Go.wp_at_succ

theorem rset_box {W : World} {b : Nat} {x0 x1 x2 : Value} (h : Cells3 W b x0 x1 x2) (y0 y1 y2 : Value) : Cells3 (((W.setCell ⟨b, 0, none⟩ y0).setCell ⟨b, 1, none⟩ y1).setCell ⟨b, 2, none⟩ y2) b y0 y1 y2 :=
  ⟨cell_set_far _ _ _ _ _ _ (by decide) (cell_set_far _ _ _ _ _ _ (by decide) (cell_set_same _ _ _ _ h.1)), cell_set_far _ _ _ _ _ _ (by decide) (cell_set_same _ _ _ _ (cell_set_far _ _ _ _ _ _ (by decide) h.2.1)), cell_set_same _ _ _ _ (cell_set_far _ _ _ _ _ _ (by decide) (cell_set_far _ _ _ _ _ _ (by decide) h.2.2))⟩
theorem rfar_box {W : World} {b c : Nat} {x0 x1 x2 : Value} (h : Cells3 W b x0 x1 x2) (hne : b ≠ c) (y0 y1 y2 : Value) : Cells3 (((W.setCell ⟨c, 0, none⟩ y0).setCell ⟨c, 1, none⟩ y1).setCell ⟨c, 2, none⟩ y2) b x0 x1 x2 :=
  ⟨(far3 _ _ _ _ _ _ _ hne).trans h.1, (far3 _ _ _ _ _ _ _ hne).trans h.2.1, (far3 _ _ _ _ _ _ _ hne).trans h.2.2⟩

theorem digs_one {v : Nat} (h : v < 10) : digs v = [v] := by unfold digs; rw [digsR_small h]; rfl
theorem mkN_small (n : Bool) (v : Nat) (h : v < 10 ^ 40) : mkN n v 0 = some ⟨n && decide (v ≠ 0), digs v, []⟩ := by
  have h1 := (digs_le v 40 (by omega)).2 h
  have h2 := digs_len v
  rw [mkN_digs, padTo_len, if_neg (by omega), padTo_same (by omega), Nat.sub_zero, List.take_of_length_le (by omega), List.drop_eq_nil_of_le (by omega)]
/-- The quotient's last digit, by way of ten units. -/
theorem odd_some {d u t d' : Dc} {s : Nat} (hs : s = max d.f.length u.f.length) (hun : u.neg = false) (ht : shD u 1 = some t) (hr : remD d t = some d') :
    ∃ n, quoD d' u = mkN n (d.raised s / u.raised s % 10) 0 := by
  have hf : t.f.length ≤ u.f.length := by
    unfold shD at ht
    split at ht
    · have := (mk_some ht).2.1; omega
    · have := (mk_some ht).2.1; omega
  have hup := sh_up ht s (by omega) (by omega)
  have e1 : (-(1 : Int)).toNat = 0 := rfl
  have e2 : (1 : Int).toNat = 1 := rfl
  rw [e1, e2, Int.pow_zero, Int.mul_one, Int.pow_one] at hup
  have hdr := rem_up hr s (by omega) (by omega)
  have hfd : d'.f.length = max d.f.length t.f.length := (mk_some hr).2.1
  have hU : u.up s = (u.raised s : Int) := by rw [up_raised, hun]; rfl
  refine ⟨d.neg, ?_⟩
  unfold quoD
  rw [show max d'.f.length u.f.length = s by omega, hdr, hup, hU]
  unfold mkN
  congr 1
  rw [up_raised]
  have e3 : ((d.raised s : Int).tmod ((u.raised s : Int) * 10)).tdiv (u.raised s : Int) = ((d.raised s / u.raised s % 10 : Nat) : Int) := by
    rw [← Nat.mod_mul_right_div_self]
    rfl
  cases hn : d.neg with
  | false => simpa using e3
  | true =>
    simp only [if_true]
    rw [Int.neg_tmod, Int.neg_tdiv, e3]
theorem odd_none {d u : Dc} {s : Nat} (hs : s = max d.f.length u.f.length) (hd : d.Ok) (hu : u.Ok) (hun : u.neg = false) (ht : shD u 1 = none) : d.raised s / u.raised s < 10 := by
  have hnf : u.num < 10 ^ 40 := num_lt hu
  unfold shD at ht
  have hz : u.z = (u.num : Int) := by unfold Dc.z; rw [hun]; rfl
  by_cases c : (u.f.length : Int) < 1
  · rw [if_pos c] at ht
    have h1 := mk_none.1 ht
    rw [hz, show ((1 : Int) - (u.f.length : Int)).toNat = 1 by omega] at h1
    have h2 : 10 ^ 40 ≤ u.num * 10 := by
      rcases h1 with h1 | h1
      · omega
      · have e : ((u.num : Int) * 10 ^ 1).natAbs = u.num * 10 := by rw [Int.pow_one]; omega
        rw [e] at h1
        exact h1
    have h3 : d.raised s = d.num := by unfold Dc.raised; rw [show s - d.f.length = 0 by omega, Nat.pow_zero, Nat.mul_one]
    have h4 : u.num ≤ u.raised s := Nat.le_mul_of_pos_right _ (Nat.pow_pos (by omega))
    have h5 := num_lt hd
    rw [h3]
    exact Nat.div_lt_of_lt_mul (by omega)
  · rw [if_neg c] at ht
    have h1 := mk_none.1 ht
    rw [hz] at h1
    have h2 := f_lt hu
    rcases h1 with h1 | h1
    · omega
    · exfalso
      have : ((u.num : Int)).natAbs = u.num := rfl
      omega

set_option maxHeartbeats 4000000 in
set_option maxRecDepth 100000 in
theorem odd_core1 (an : Bool) (ai af ui uf : ByteArray) (v : Nat) (hv : v < 10) (qn : Bool) (tn rn : Bool) (ti tf ri rf : ByteArray) (w : World) (H1 : (∀ wx : World, Calls Tryd.prog 68 #[(.agg #[.bool false, .string ui, .string uf]), .int .i64 1] wx fun e w' => e = .returned (.tuple #[.agg #[.bool tn, .string ti, .string tf], .int .i64 0]) ∧ Below wx.heap.size wx w')) (H2 : (∀ wx : World, Calls Tryd.prog 58 #[(.agg #[.bool an, .string ai, .string af]), (.agg #[.bool tn, .string ti, .string tf])] wx fun e w' => e = .returned (.tuple #[.agg #[.bool rn, .string ri, .string rf], .int .i64 0]) ∧ Below wx.heap.size wx w')) (H3 : (∀ wx : World, Calls Tryd.prog 200 #[(.agg #[.bool rn, .string ri, .string rf]), (.agg #[.bool false, .string ui, .string uf])] wx fun e w' => e = .returned (.tuple #[.agg #[.bool qn, .string (dStr [v]), .string ⟨#[]⟩], .int .i64 0]) ∧ Below wx.heap.size wx w')) :
    Calls Tryd.prog 192 #[(.agg #[.bool an, .string ai, .string af]), (.agg #[.bool false, .string ui, .string uf])] w fun e w' => e = .returned (.bool (decide (v % 2 = 1))) ∧ Below w.heap.size w w' := by
  have D1 := Lib.hid H1
  have D2 := Lib.hid H2
  have D3 := Lib.hid H3
  clear H1 H3 H2
  obtain ⟨S, hS⟩ : ∃ S, S = dStr [v] := ⟨_, rfl⟩
  have hz : S.size = 1 := by rw [hS]; rfl
  have hp : 0 < S.size := by omega
  have hget : (S[0]'hp).toNat = 48 + v := by subst hS; exact dStr_get [v] (Digs.cons hv Digs.nil) 0 hp
  have w1 : IntKind.u8.wrap (((S[0]'hp).toNat : Int) - 48) = (v : Int) := by rw [hget, IntWalk.u8_in _ (by omega)]; omega
  have w2 : IntKind.u8.wrap ((v : Int).tmod 2) = ((v % 2 : Nat) : Int) := by rw [Int.tmod_eq_emod_of_nonneg (by omega), IntWalk.u8_in _ (by omega)]; omega
  have w3 : (((v % 2 : Nat) : Int) == 1) = decide (v % 2 = 1) := by
    by_cases h : v % 2 = 1
    · rw [h]; rfl
    · rw [decide_eq_false h, beq_eq_false_iff_ne]; omega
  have W4 : (((v : Int) % 2) == 1) = decide (v % 2 = 1) := by rw [← w3]; rfl
  have HW3 := Lib.hid w3
  have HW4' := Lib.hid W4
  clear w3 W4
  rw [← hS] at D3
  have n1 : ¬ S.toList = [] := fun h => by have := toList_nil.1 h; omega
  clear hS hget
  have q0 : ((0 : Int) == 0) = true := by decide
  have q3 : ((3 : Int) == 0) = false := by decide
  go_enter Tryd.func192, Tryd.ntmps192
  go_wp2_with fail
  obtain ⟨W2, hW2⟩ : ∃ W2, W2 = ((w.alloc (.cells #[.bool an, .string ai, .string af] 23)).alloc (.cells #[.bool false, .string ui, .string uf] 23)) := ⟨_, rfl⟩
  obtain ⟨hb2, hz2, CA, CB, _⟩ : Below w.heap.size w W2 ∧ w.heap.size + 2 ≤ W2.heap.size ∧ Cells3 W2 w.heap.size (.bool an) (.string ai) (.string af) ∧ Cells3 W2 (w.heap.size + 1) (.bool false) (.string ui) (.string uf) ∧ ∀ i, W2.frozen? ⟨w.heap.size + 1, i, none⟩ = false := by rw [hW2]; exact ⟨below_two w _ _, two_boxes w _ _ _ _ _ _ _⟩
  have FA : ∀ i, W2.frozen? ⟨w.heap.size, i, none⟩ = false := by
    rw [hW2]
    exact frozen_keep (one_box w (.bool an) (.string ai) (.string af) 23).2.2 ((Below.refl _ _).alloc (Nat.le_refl _) _) (by simp)
  rw [← hW2]
  clear hW2
  (with_reducible refine (D1.out _).mono ?_)
  rintro e V3 ⟨rfl, hb3⟩
  obtain ⟨W4, hW4⟩ : ∃ W4, W4 = V3.alloc (.cells #[.bool tn, .string ti, .string tf] 23) := ⟨_, rfl⟩
  obtain ⟨hb4, hz4, CT, _⟩ : Below V3.heap.size V3 W4 ∧ V3.heap.size + 1 ≤ W4.heap.size ∧ Cells3 W4 V3.heap.size (.bool tn) (.string ti) (.string tf) ∧ ∀ i, W4.frozen? ⟨V3.heap.size, i, none⟩ = false := by rw [hW4]; exact ⟨(Below.refl _ _).alloc (Nat.le_refl _) _, one_box V3 _ _ _ _⟩
  have hbx : Below W2.heap.size W2 W4 := hb3.trans (hb4.mono hb3.size)
  have CA := Lib.hid (CA.keep hbx (by omega))
  have CB := Lib.hid (CB.keep hbx (by omega))
  have FA := Lib.hid (frozen_keep FA hbx (by omega))
  have hz5 : w.heap.size + 2 ≤ W4.heap.size := by have := hbx.size; omega
  have hz6 : w.heap.size + 2 ≤ V3.heap.size := by have := hb3.size; omega
  have B4 := Lib.hid (hb2.trans (hbx.mono hb2.size))
  have HW4 := Lib.hid hW4
  clear hb3 hb4 hbx hb2 hz2 hW4
  obtain ⟨t0, t1, t2⟩ := CT
  obtain ⟨a0, a1, a2⟩ := CA.out
  obtain ⟨b0, b1, b2⟩ := CB.out
  rw [HW4.out] at t0 t1 t2 a0 a1 a2 b0 b1 b2
  go_wp2_with fail
  try rw [← HW4.out]
  clear t0 t1 t2 a0 a1 a2 b0 b1 b2
  (with_reducible refine (D2.out _).mono ?_)
  rintro e V5 ⟨rfl, hb5⟩
  have CA := CA.out.keep hb5 (by omega)
  have CB := CB.out.keep hb5 (by omega)
  have FA := frozen_keep FA.out hb5 (by omega)
  have B5 := Lib.hid (B4.out.trans (hb5.mono B4.out.size))
  have hz7 : w.heap.size + 2 ≤ V5.heap.size := by have := hb5.size; omega
  clear hb5
  obtain ⟨W6, hW6⟩ : ∃ W6, W6 = ((V5.setCell ⟨w.heap.size, 0, none⟩ (.bool rn)).setCell ⟨w.heap.size, 1, none⟩ (.string ri)).setCell ⟨w.heap.size, 2, none⟩ (.string rf) := ⟨_, rfl⟩
  have CA6 : Cells3 W6 w.heap.size (.bool rn) (.string ri) (.string rf) := by rw [hW6]; exact rset_box CA _ _ _
  have CB6 : Cells3 W6 (w.heap.size + 1) (.bool false) (.string ui) (.string uf) := by rw [hW6]; exact rfar_box CB (by omega) _ _ _
  have B6 : Below w.heap.size w W6 := by rw [hW6]; exact res_below B5.out (Nat.le_refl _) _ _ _
  have hz8 : w.heap.size + 2 ≤ W6.heap.size := by rw [hW6]; simpa [World.setCell] using hz7
  obtain ⟨a0, a1, a2⟩ := CA
  obtain ⟨b0, b1, b2⟩ := CB
  obtain ⟨e0, e1, e2⟩ := CA6
  obtain ⟨f0, f1, f2⟩ := CB6
  have HW6 := Lib.hid hW6
  rw [hW6] at e0 e1 e2 f0 f1 f2
  clear hW6
  go_wp2_with fail
  rw [← HW6.out]
  clear a0 a1 a2 b0 b1 b2 e0 e1 e2 f0 f1 f2 HW6
  (with_reducible refine (D3.out _).mono ?_)
  rintro e V7 ⟨rfl, hb7⟩
  have B7 := Lib.hid ((B6).trans (hb7.mono (B6).size))
  clear hb7
  obtain ⟨_, ⟨_, s1, _⟩, _⟩ := one_box V7 (.bool qn) (.string S) (.string ⟨#[]⟩) 23
  go_wp2
  go_ret
  exact ⟨ret_bool (by first | exact HW3.out | exact HW4'.out), B7.out.alloc B7.out.size _⟩

set_option maxHeartbeats 4000000 in
set_option maxRecDepth 100000 in
theorem odd_core0 (an : Bool) (ai af ui uf : ByteArray) (v : Nat) (hv : v < 10) (qn : Bool) (w : World) (H1 : (∀ wx : World, Calls Tryd.prog 68 #[(.agg #[.bool false, .string ui, .string uf]), .int .i64 1] wx fun e w' => e = .returned (.tuple #[.agg #[.bool false, .string ⟨#[]⟩, .string ⟨#[]⟩], .int .i64 3]) ∧ Below wx.heap.size wx w')) (H3 : (∀ wx : World, Calls Tryd.prog 200 #[(.agg #[.bool an, .string ai, .string af]), (.agg #[.bool false, .string ui, .string uf])] wx fun e w' => e = .returned (.tuple #[.agg #[.bool qn, .string (dStr [v]), .string ⟨#[]⟩], .int .i64 0]) ∧ Below wx.heap.size wx w')) :
    Calls Tryd.prog 192 #[(.agg #[.bool an, .string ai, .string af]), (.agg #[.bool false, .string ui, .string uf])] w fun e w' => e = .returned (.bool (decide (v % 2 = 1))) ∧ Below w.heap.size w w' := by
  have D1 := Lib.hid H1

  have D3 := Lib.hid H3
  clear H1 H3
  obtain ⟨S, hS⟩ : ∃ S, S = dStr [v] := ⟨_, rfl⟩
  have hz : S.size = 1 := by rw [hS]; rfl
  have hp : 0 < S.size := by omega
  have hget : (S[0]'hp).toNat = 48 + v := by subst hS; exact dStr_get [v] (Digs.cons hv Digs.nil) 0 hp
  have w1 : IntKind.u8.wrap (((S[0]'hp).toNat : Int) - 48) = (v : Int) := by rw [hget, IntWalk.u8_in _ (by omega)]; omega
  have w2 : IntKind.u8.wrap ((v : Int).tmod 2) = ((v % 2 : Nat) : Int) := by rw [Int.tmod_eq_emod_of_nonneg (by omega), IntWalk.u8_in _ (by omega)]; omega
  have w3 : (((v % 2 : Nat) : Int) == 1) = decide (v % 2 = 1) := by
    by_cases h : v % 2 = 1
    · rw [h]; rfl
    · rw [decide_eq_false h, beq_eq_false_iff_ne]; omega
  have W4 : (((v : Int) % 2) == 1) = decide (v % 2 = 1) := by rw [← w3]; rfl
  have HW3 := Lib.hid w3
  have HW4' := Lib.hid W4
  clear w3 W4
  rw [← hS] at D3
  have n1 : ¬ S.toList = [] := fun h => by have := toList_nil.1 h; omega
  clear hS hget
  have q0 : ((0 : Int) == 0) = true := by decide
  have q3 : ((3 : Int) == 0) = false := by decide
  go_enter Tryd.func192, Tryd.ntmps192
  go_wp2_with fail
  obtain ⟨W2, hW2⟩ : ∃ W2, W2 = ((w.alloc (.cells #[.bool an, .string ai, .string af] 23)).alloc (.cells #[.bool false, .string ui, .string uf] 23)) := ⟨_, rfl⟩
  obtain ⟨hb2, hz2, CA, CB, _⟩ : Below w.heap.size w W2 ∧ w.heap.size + 2 ≤ W2.heap.size ∧ Cells3 W2 w.heap.size (.bool an) (.string ai) (.string af) ∧ Cells3 W2 (w.heap.size + 1) (.bool false) (.string ui) (.string uf) ∧ ∀ i, W2.frozen? ⟨w.heap.size + 1, i, none⟩ = false := by rw [hW2]; exact ⟨below_two w _ _, two_boxes w _ _ _ _ _ _ _⟩
  have FA : ∀ i, W2.frozen? ⟨w.heap.size, i, none⟩ = false := by
    rw [hW2]
    exact frozen_keep (one_box w (.bool an) (.string ai) (.string af) 23).2.2 ((Below.refl _ _).alloc (Nat.le_refl _) _) (by simp)
  rw [← hW2]
  clear hW2
  (with_reducible refine (D1.out _).mono ?_)
  rintro e V3 ⟨rfl, hb3⟩
  obtain ⟨W4, hW4⟩ : ∃ W4, W4 = V3.alloc (.cells #[.bool false, .string ⟨#[]⟩, .string ⟨#[]⟩] 23) := ⟨_, rfl⟩
  obtain ⟨hb4, hz4, CT, _⟩ : Below V3.heap.size V3 W4 ∧ V3.heap.size + 1 ≤ W4.heap.size ∧ Cells3 W4 V3.heap.size (.bool false) (.string ⟨#[]⟩) (.string ⟨#[]⟩) ∧ ∀ i, W4.frozen? ⟨V3.heap.size, i, none⟩ = false := by rw [hW4]; exact ⟨(Below.refl _ _).alloc (Nat.le_refl _) _, one_box V3 _ _ _ _⟩
  have hbx : Below W2.heap.size W2 W4 := hb3.trans (hb4.mono hb3.size)
  have CA := Lib.hid (CA.keep hbx (by omega))
  have CB := Lib.hid (CB.keep hbx (by omega))
  have FA := Lib.hid (frozen_keep FA hbx (by omega))
  have hz5 : w.heap.size + 2 ≤ W4.heap.size := by have := hbx.size; omega
  have hz6 : w.heap.size + 2 ≤ V3.heap.size := by have := hb3.size; omega
  have B4 := Lib.hid (hb2.trans (hbx.mono hb2.size))
  have HW4 := Lib.hid hW4
  clear hb3 hb4 hbx hb2 hz2 hW4
  obtain ⟨t0, t1, t2⟩ := CT
  obtain ⟨a0, a1, a2⟩ := CA.out
  obtain ⟨b0, b1, b2⟩ := CB.out
  rw [HW4.out] at t0 t1 t2 a0 a1 a2 b0 b1 b2
  go_wp2_with fail
  try rw [← HW4.out]
  clear t0 t1 t2 a0 a1 a2 b0 b1 b2
  (with_reducible refine (D3.out _).mono ?_)
  rintro e V7 ⟨rfl, hb7⟩
  have B7 := Lib.hid ((B4.out).trans (hb7.mono (B4.out).size))
  clear hb7
  obtain ⟨_, ⟨_, s1, _⟩, _⟩ := one_box V7 (.bool qn) (.string S) (.string ⟨#[]⟩) 23
  go_wp2
  go_ret
  exact ⟨ret_bool (by first | exact HW3.out | exact HW4'.out), B7.out.alloc B7.out.size _⟩

theorem odd_ok (d u : Dc) (w : World) (hd : d.Ok) (hu : u.Ok) (hun : u.neg = false) (h0 : u.num ≠ 0) :
    Calls Tryd.prog 192 #[(.agg #[.bool d.neg, .string (dStr d.i), .string (dStr d.f)]), (.agg #[.bool false, .string (dStr u.i), .string (dStr u.f)])] w fun e w' => e = .returned (.bool (decide (d.raised (max d.f.length u.f.length) / u.raised (max d.f.length u.f.length) % 2 = 1))) ∧ Below w.heap.size w w' := by
  obtain ⟨s, hs⟩ : ∃ s, s = max d.f.length u.f.length := ⟨_, rfl⟩
  rw [← hs]
  have par : decide (d.raised s / u.raised s % 10 % 2 = 1) = decide (d.raised s / u.raised s % 2 = 1) := by
    by_cases h : d.raised s / u.raised s % 2 = 1
    · rw [decide_eq_true h, decide_eq_true (by omega)]
    · rw [decide_eq_false h, decide_eq_false (by omega)]
  have H1 := fun wx => shift_ok u 1 wx _ rfl hu (by omega) (by omega)
  rw [hun] at H1
  cases ht : shD u 1 with
  | some t =>
    rw [ht] at H1
    have tOk : t.Ok := by
      unfold shD at ht
      split at ht
      · exact (mk_some ht).2.2.1
      · exact (mk_some ht).2.2.1
    have t0 : t.num ≠ 0 := by
      intro e
      have hup := sh_up ht (max u.f.length t.f.length) (by omega) (by omega)
      rw [(up_zero _).2 ((znum t).2 e), Int.zero_mul] at hup
      rcases Int.mul_eq_zero.1 hup.symm with h | h
      · exact h0 ((znum u).1 ((up_zero _).1 h))
      · have := ten_pos (1 : Int).toNat; omega
    obtain ⟨d', hr⟩ := rem_room hd tOk (fun e => t0 ((znum t).1 e))
    obtain ⟨n, hq⟩ := odd_some hs hun ht hr
    rw [mkN_small _ _ (Nat.lt_of_lt_of_le (Nat.mod_lt _ (by omega)) (by decide)), digs_one (Nat.mod_lt _ (by omega))] at hq
    have H3 := fun wx => div_ok d' u wx _ hq (mk_some hr).2.2.1 hu h0
    rw [hun] at H3
    have := odd_core1 d.neg (dStr d.i) (dStr d.f) (dStr u.i) (dStr u.f) (d.raised s / u.raised s % 10) (Nat.mod_lt _ (by omega)) _ t.neg d'.neg (dStr t.i) (dStr t.f) (dStr d'.i) (dStr d'.f) w H1 (fun wx => rem_ok d t wx (some d') hr hd tOk t0) H3
    rw [par] at this
    exact this
  | none =>
    rw [ht] at H1
    have hlt := odd_none hs hd hu hun ht
    have hq : quoD d u = mkN (d.neg != u.neg) (d.raised s / u.raised s) 0 := (quo_ref d u hs).symm
    rw [mkN_small _ _ (Nat.lt_of_lt_of_le hlt (by decide)), digs_one hlt] at hq
    have H3 := fun wx => div_ok d u wx _ hq hd hu h0
    rw [hun] at H3
    exact odd_core0 d.neg (dStr d.i) (dStr d.f) (dStr u.i) (dStr u.f) (d.raised s / u.raised s) hlt _ w H1 H3
end Go.Proofs.YtpbljcjghjbjdaaDoor
