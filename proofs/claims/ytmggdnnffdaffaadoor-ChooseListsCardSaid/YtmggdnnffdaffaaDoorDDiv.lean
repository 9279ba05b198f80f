/- checkDivision, Div and Rem of the program. -/
import Derived.Test.YtmggdnnffdaffaaDoorDTop
import Derived.Test.YtmggdnnffdaffaaDoorDDivide
namespace Go.Proofs.YtmggdnnffdaffaaDoor
open Go.RowKit
attribute [local go_sem ↓] Go.wp_at_zero Go.wp_at_succ

theorem zero_num {d : Dc} (h : d.Ok) : (zrB (dStr d.i) && zrB (dStr d.f)) = decide (d.num = 0) := by
  rw [zrB_list, zrB_list]
  have e : ∀ l : List Nat, (dStr l).data.toList = dB l := fun l => by rw [dStr_toList]; rfl
  rw [e, e]
  have := (all0_iff (l := dB d.i ++ dB d.f) (fun b hb => by rcases List.mem_append.1 hb with hb | hb; exact dB_isD h.di b hb; exact dB_isD h.df b hb))
  rw [Bool.eq_iff_iff, decide_eq_true_eq]
  unfold Dc.num
  rw [dN_append, dN_dB h.di, dN_dB h.df] at this
  rw [← this]
  simp only [all0, List.all_append, Bool.and_eq_true]

set_option maxHeartbeats 1000000 in
theorem checkDiv_fine (a b : Dc) (w : World) (ha : a.Ok) (hb : b.Ok) (h0 : b.num ≠ 0) :
    Calls Tryd.prog 54 #[.agg #[.bool a.neg, .string (dStr a.i), .string (dStr a.f)], .agg #[.bool b.neg, .string (dStr b.i), .string (dStr b.f)]] w fun e w' => e = .returned (.int .i64 0) ∧ Below w.heap.size w w' := by
  have DC := Lib.hid (fun wx => checkBoth_two a.neg b.neg (dStr a.i) (dStr a.f) (dStr b.i) (dStr b.f) wx (by rw [dStr_size]; have := ha.most; omega) (by rw [dStr_size]; have := ha.most; omega) (by rw [dStr_size]; have := hb.most; omega) (by rw [dStr_size]; have := hb.most; omega) (ok_of ha))
  have q := ck_ok hb
  have DZ : Hid (∀ wx : World, Calls Tryd.prog 48 #[.agg #[.bool b.neg, .string (dStr b.i), .string (dStr b.f)]] wx fun e w' => e = .returned (.bool false) ∧ Below wx.heap.size wx w') := by
    intro wx
    have := isZero_any b.neg (dStr b.i) (dStr b.f) wx (by rw [dStr_size]; have := hb.most; unfold maxLen; omega) (by rw [dStr_size]; have := hb.most; unfold maxLen; omega)
    rw [zero_num hb, decide_eq_false h0] at this
    exact this
  clear ha hb h0
  go_enter Tryd.func54, Tryd.ntmps54
  go_wp2_with fail
  obtain ⟨W2, hW2⟩ : ∃ W2, W2 = (w.alloc (.cells #[.bool a.neg, .string (dStr a.i), .string (dStr a.f)] 27)).alloc (.cells #[.bool b.neg, .string (dStr b.i), .string (dStr b.f)] 27) := ⟨_, rfl⟩
  obtain ⟨hb2, hz2, CA, CB, _⟩ : Below w.heap.size w W2 ∧ w.heap.size + 2 ≤ W2.heap.size ∧ Cells3 W2 w.heap.size (.bool a.neg) (.string (dStr a.i)) (.string (dStr a.f)) ∧ Cells3 W2 (w.heap.size + 1) (.bool b.neg) (.string (dStr b.i)) (.string (dStr b.f)) ∧ ∀ i, W2.frozen? ⟨w.heap.size + 1, i, none⟩ = false := by rw [hW2]; exact ⟨below_two w _ _, two_boxes w _ _ _ _ _ _ _⟩
  rw [← hW2]
  clear hW2
  (with_reducible refine (DC.out _).mono ?_)
  rintro e w1 ⟨rfl, hb⟩
  obtain ⟨b0, b1, b2⟩ := CB.keep hb (by omega)
  have B1 := Lib.hid (hb2.trans (hb.mono hb2.size))
  clear hb hb2
  go_wp2_with fail
  (with_reducible refine (DZ.out _).mono ?_)
  rintro e w2 ⟨rfl, hb3⟩
  go_wp2
  go_ret
  exact ⟨rfl, B1.out.trans (hb3.mono B1.out.size)⟩

set_option maxHeartbeats 1000000 in
theorem checkDiv_zero (a b : Dc) (w : World) (ha : a.Ok) (hb : b.Ok) (h0 : b.num = 0) :
    Calls Tryd.prog 54 #[.agg #[.bool a.neg, .string (dStr a.i), .string (dStr a.f)], .agg #[.bool b.neg, .string (dStr b.i), .string (dStr b.f)]] w fun e w' => e = .returned (.int .i64 21) ∧ Below w.heap.size w w' := by
  have DC := Lib.hid (fun wx => checkBoth_two a.neg b.neg (dStr a.i) (dStr a.f) (dStr b.i) (dStr b.f) wx (by rw [dStr_size]; have := ha.most; omega) (by rw [dStr_size]; have := ha.most; omega) (by rw [dStr_size]; have := hb.most; omega) (by rw [dStr_size]; have := hb.most; omega) (ok_of ha))
  have q := ck_ok hb
  have DZ : Hid (∀ wx : World, Calls Tryd.prog 48 #[.agg #[.bool b.neg, .string (dStr b.i), .string (dStr b.f)]] wx fun e w' => e = .returned (.bool true) ∧ Below wx.heap.size wx w') := by
    intro wx
    have := isZero_any b.neg (dStr b.i) (dStr b.f) wx (by rw [dStr_size]; have := hb.most; unfold maxLen; omega) (by rw [dStr_size]; have := hb.most; unfold maxLen; omega)
    rw [zero_num hb, decide_eq_true h0] at this
    exact this
  clear ha hb h0
  go_enter Tryd.func54, Tryd.ntmps54
  go_wp2_with fail
  obtain ⟨W2, hW2⟩ : ∃ W2, W2 = (w.alloc (.cells #[.bool a.neg, .string (dStr a.i), .string (dStr a.f)] 27)).alloc (.cells #[.bool b.neg, .string (dStr b.i), .string (dStr b.f)] 27) := ⟨_, rfl⟩
  obtain ⟨hb2, hz2, CA, CB, _⟩ : Below w.heap.size w W2 ∧ w.heap.size + 2 ≤ W2.heap.size ∧ Cells3 W2 w.heap.size (.bool a.neg) (.string (dStr a.i)) (.string (dStr a.f)) ∧ Cells3 W2 (w.heap.size + 1) (.bool b.neg) (.string (dStr b.i)) (.string (dStr b.f)) ∧ ∀ i, W2.frozen? ⟨w.heap.size + 1, i, none⟩ = false := by rw [hW2]; exact ⟨below_two w _ _, two_boxes w _ _ _ _ _ _ _⟩
  rw [← hW2]
  clear hW2
  (with_reducible refine (DC.out _).mono ?_)
  rintro e w1 ⟨rfl, hb⟩
  obtain ⟨b0, b1, b2⟩ := CB.keep hb (by omega)
  have B1 := Lib.hid (hb2.trans (hb.mono hb2.size))
  clear hb hb2
  go_wp2_with fail
  (with_reducible refine (DZ.out _).mono ?_)
  rintro e w2 ⟨rfl, hb3⟩
  go_wp2
  go_ret
  exact ⟨rfl, B1.out.trans (hb3.mono B1.out.size)⟩

set_option maxHeartbeats 1000000 in
theorem checkDiv_bad1 (na nb : Bool) (ia fa ib fb : ByteArray) (w : World) (h1 : ia.size ≤ 140737488355328) (h2 : fa.size ≤ 140737488355328) (h : okB na ia fa = false) :
    Calls Tryd.prog 54 #[.agg #[.bool na, .string ia, .string fa], .agg #[.bool nb, .string ib, .string fb]] w fun e w' => e = .returned (.int .i64 20) ∧ Below w.heap.size w w' := by
  have DC := Lib.hid (fun wx => checkBoth_one na nb ia fa ib fb wx h1 h2 h)
  clear h
  go_enter Tryd.func54, Tryd.ntmps54
  go_wp2_with fail
  obtain ⟨W2, hW2⟩ : ∃ W2, W2 = (w.alloc (.cells #[.bool na, .string ia, .string fa] 27)).alloc (.cells #[.bool nb, .string ib, .string fb] 27) := ⟨_, rfl⟩
  obtain ⟨hb2, hz2, CA, CB, _⟩ : Below w.heap.size w W2 ∧ w.heap.size + 2 ≤ W2.heap.size ∧ Cells3 W2 w.heap.size (.bool na) (.string ia) (.string fa) ∧ Cells3 W2 (w.heap.size + 1) (.bool nb) (.string ib) (.string fb) ∧ ∀ i, W2.frozen? ⟨w.heap.size + 1, i, none⟩ = false := by rw [hW2]; exact ⟨below_two w _ _, two_boxes w _ _ _ _ _ _ _⟩
  rw [← hW2]
  clear hW2
  (with_reducible refine (DC.out _).mono ?_)
  rintro e w1 ⟨rfl, hb⟩
  have B1 := Lib.hid (hb2.trans (hb.mono hb2.size))
  clear hb hb2
  go_wp2
  go_ret
  exact ⟨rfl, B1.out⟩

set_option maxHeartbeats 1000000 in
theorem checkDiv_bad2 (na nb : Bool) (ia fa ib fb : ByteArray) (w : World) (h1 : ia.size ≤ 140737488355328) (h2 : fa.size ≤ 140737488355328) (h3 : ib.size ≤ 140737488355328) (h4 : fb.size ≤ 140737488355328) (ha : okB na ia fa = true) (h : okB nb ib fb = false) :
    Calls Tryd.prog 54 #[.agg #[.bool na, .string ia, .string fa], .agg #[.bool nb, .string ib, .string fb]] w fun e w' => e = .returned (.int .i64 20) ∧ Below w.heap.size w w' := by
  have DC := Lib.hid (fun wx => checkBoth_two na nb ia fa ib fb wx h1 h2 h3 h4 ha)
  have q := ck_bad h
  clear h ha
  go_enter Tryd.func54, Tryd.ntmps54
  go_wp2_with fail
  obtain ⟨W2, hW2⟩ : ∃ W2, W2 = (w.alloc (.cells #[.bool na, .string ia, .string fa] 27)).alloc (.cells #[.bool nb, .string ib, .string fb] 27) := ⟨_, rfl⟩
  obtain ⟨hb2, hz2, CA, CB, _⟩ : Below w.heap.size w W2 ∧ w.heap.size + 2 ≤ W2.heap.size ∧ Cells3 W2 w.heap.size (.bool na) (.string ia) (.string fa) ∧ Cells3 W2 (w.heap.size + 1) (.bool nb) (.string ib) (.string fb) ∧ ∀ i, W2.frozen? ⟨w.heap.size + 1, i, none⟩ = false := by rw [hW2]; exact ⟨below_two w _ _, two_boxes w _ _ _ _ _ _ _⟩
  rw [← hW2]
  clear hW2
  (with_reducible refine (DC.out _).mono ?_)
  rintro e w1 ⟨rfl, hb⟩
  have B1 := Lib.hid (hb2.trans (hb.mono hb2.size))
  clear hb hb2
  go_wp2
  go_ret
  exact ⟨rfl, B1.out⟩

set_option maxHeartbeats 1000000 in
set_option maxRecDepth 100000 in
theorem rem_err20 (na nb : Bool) (ia fa ib fb : ByteArray) (w : World) (DC : Hid (∀ wx : World, Calls Tryd.prog 54 #[.agg #[.bool na, .string ia, .string fa], .agg #[.bool nb, .string ib, .string fb]] wx fun e w' => e = .returned (.int .i64 20) ∧ Below wx.heap.size wx w')) :
    Calls Tryd.prog 43 #[.agg #[.bool na, .string ia, .string fa], .agg #[.bool nb, .string ib, .string fb]] w fun e w' => e = .returned (.tuple #[.agg #[.bool false, .string ⟨#[]⟩, .string ⟨#[]⟩], .int .i64 20]) ∧ Below w.heap.size w w' := by
  go_enter Tryd.func43, Tryd.ntmps43
  go_wp2_with fail
  obtain ⟨W2, hW2⟩ : ∃ W2, W2 = ((w.alloc (.cells #[.bool na, .string ia, .string fa] 27)).alloc (.cells #[.bool nb, .string ib, .string fb] 27)).alloc (.cells #[.bool false, .string ⟨#[]⟩, .string ⟨#[]⟩] 27) := ⟨_, rfl⟩
  obtain ⟨hb2, hz2, CA, CB, CR, FR⟩ : Below w.heap.size w W2 ∧ w.heap.size + 3 ≤ W2.heap.size ∧ Cells3 W2 w.heap.size (.bool na) (.string ia) (.string fa) ∧ Cells3 W2 (w.heap.size + 1) (.bool nb) (.string ib) (.string fb) ∧ Cells3 W2 (w.heap.size + 2) (.bool false) (.string ⟨#[]⟩) (.string ⟨#[]⟩) ∧ ∀ i, W2.frozen? ⟨w.heap.size + 2, i, none⟩ = false := by rw [hW2]; exact ⟨below_three w _ _ _, three_boxes w _ _ _ _ _ _ _ _ _ _⟩
  rw [← hW2]
  clear hW2
  (with_reducible refine (DC.out _).mono ?_)
  rintro e W3 ⟨rfl, hb3⟩
  obtain ⟨r0, r1, r2⟩ := CR.keep hb3 (by omega)
  have z0 := frozen_keep FR hb3 (by omega)
  have B3 := Lib.hid (hb2.trans (hb3.mono hb2.size))
  obtain ⟨e0, e1, e2⟩ := res_cells r0 r1 r2 (.bool false) (.string ⟨#[]⟩) (.string ⟨#[]⟩)
  clear hb3 hb2 CA CB CR FR
  go_wp2
  exact bodyPost_ret (v := .tuple #[.agg #[.bool false, .string ⟨#[]⟩, .string ⟨#[]⟩], .int .i64 20]) (by simp [results, Tryd.results43, go_sem, e0, e1, e2]) rfl ⟨rfl, res_below B3.out (by omega) _ _ _⟩

theorem rem_bad1 (na nb : Bool) (ia fa ib fb : ByteArray) (w : World) (h1 : ia.size ≤ 140737488355328) (h2 : fa.size ≤ 140737488355328) (h : okB na ia fa = false) :
    Calls Tryd.prog 43 #[.agg #[.bool na, .string ia, .string fa], .agg #[.bool nb, .string ib, .string fb]] w fun e w' => e = .returned (.tuple #[.agg #[.bool false, .string ⟨#[]⟩, .string ⟨#[]⟩], .int .i64 20]) ∧ Below w.heap.size w w' :=
  rem_err20 _ _ _ _ _ _ w (Lib.hid fun wx => checkDiv_bad1 na nb ia fa ib fb wx h1 h2 h)

theorem rem_bad2 (na nb : Bool) (ia fa ib fb : ByteArray) (w : World) (h1 : ia.size ≤ 140737488355328) (h2 : fa.size ≤ 140737488355328) (h3 : ib.size ≤ 140737488355328) (h4 : fb.size ≤ 140737488355328) (ha : okB na ia fa = true) (h : okB nb ib fb = false) :
    Calls Tryd.prog 43 #[.agg #[.bool na, .string ia, .string fa], .agg #[.bool nb, .string ib, .string fb]] w fun e w' => e = .returned (.tuple #[.agg #[.bool false, .string ⟨#[]⟩, .string ⟨#[]⟩], .int .i64 20]) ∧ Below w.heap.size w w' :=
  rem_err20 _ _ _ _ _ _ w (Lib.hid fun wx => checkDiv_bad2 na nb ia fa ib fb wx h1 h2 h3 h4 ha h)

set_option maxHeartbeats 1000000 in
set_option maxRecDepth 100000 in
theorem rem_err21 (na nb : Bool) (ia fa ib fb : ByteArray) (w : World) (DC : Hid (∀ wx : World, Calls Tryd.prog 54 #[.agg #[.bool na, .string ia, .string fa], .agg #[.bool nb, .string ib, .string fb]] wx fun e w' => e = .returned (.int .i64 21) ∧ Below wx.heap.size wx w')) :
    Calls Tryd.prog 43 #[.agg #[.bool na, .string ia, .string fa], .agg #[.bool nb, .string ib, .string fb]] w fun e w' => e = .returned (.tuple #[.agg #[.bool false, .string ⟨#[]⟩, .string ⟨#[]⟩], .int .i64 21]) ∧ Below w.heap.size w w' := by
  go_enter Tryd.func43, Tryd.ntmps43
  go_wp2_with fail
  obtain ⟨W2, hW2⟩ : ∃ W2, W2 = ((w.alloc (.cells #[.bool na, .string ia, .string fa] 27)).alloc (.cells #[.bool nb, .string ib, .string fb] 27)).alloc (.cells #[.bool false, .string ⟨#[]⟩, .string ⟨#[]⟩] 27) := ⟨_, rfl⟩
  obtain ⟨hb2, hz2, CA, CB, CR, FR⟩ : Below w.heap.size w W2 ∧ w.heap.size + 3 ≤ W2.heap.size ∧ Cells3 W2 w.heap.size (.bool na) (.string ia) (.string fa) ∧ Cells3 W2 (w.heap.size + 1) (.bool nb) (.string ib) (.string fb) ∧ Cells3 W2 (w.heap.size + 2) (.bool false) (.string ⟨#[]⟩) (.string ⟨#[]⟩) ∧ ∀ i, W2.frozen? ⟨w.heap.size + 2, i, none⟩ = false := by rw [hW2]; exact ⟨below_three w _ _ _, three_boxes w _ _ _ _ _ _ _ _ _ _⟩
  rw [← hW2]
  clear hW2
  (with_reducible refine (DC.out _).mono ?_)
  rintro e W3 ⟨rfl, hb3⟩
  obtain ⟨r0, r1, r2⟩ := CR.keep hb3 (by omega)
  have z0 := frozen_keep FR hb3 (by omega)
  have B3 := Lib.hid (hb2.trans (hb3.mono hb2.size))
  obtain ⟨e0, e1, e2⟩ := res_cells r0 r1 r2 (.bool false) (.string ⟨#[]⟩) (.string ⟨#[]⟩)
  clear hb3 hb2 CA CB CR FR
  go_wp2
  exact bodyPost_ret (v := .tuple #[.agg #[.bool false, .string ⟨#[]⟩, .string ⟨#[]⟩], .int .i64 21]) (by simp [results, Tryd.results43, go_sem, e0, e1, e2]) rfl ⟨rfl, res_below B3.out (by omega) _ _ _⟩

theorem rem_zero (a b : Dc) (w : World) (ha : a.Ok) (hb : b.Ok) (h0 : b.num = 0) :
    Calls Tryd.prog 43 #[.agg #[.bool a.neg, .string (dStr a.i), .string (dStr a.f)], .agg #[.bool b.neg, .string (dStr b.i), .string (dStr b.f)]] w fun e w' => e = .returned (.tuple #[.agg #[.bool false, .string ⟨#[]⟩, .string ⟨#[]⟩], .int .i64 21]) ∧ Below w.heap.size w w' :=
  rem_err21 _ _ _ _ _ _ w (Lib.hid fun wx => checkDiv_zero a b wx ha hb h0)

set_option maxHeartbeats 2000000 in
set_option maxRecDepth 100000 in
theorem rem_ok (a b : Dc) (w : World) (o : Option Dc) (ho : remD a b = o) (ha : a.Ok) (hb : b.Ok) (h0 : b.num ≠ 0) :
    Calls Tryd.prog 43 #[.agg #[.bool a.neg, .string (dStr a.i), .string (dStr a.f)], .agg #[.bool b.neg, .string (dStr b.i), .string (dStr b.f)]] w fun e w' => e = .returned (.tuple #[.agg #[.bool (oN o), .string (oI o), .string (oF o)], .int .i64 (oE o)]) ∧ Below w.heap.size w w' := by
  have DC := Lib.hid (fun wx => checkDiv_fine a b wx ha hb h0)
  obtain ⟨hm1, hm2, ho1, ho2⟩ : a.i.length + a.f.length ≤ 40 ∧ b.i.length + b.f.length ≤ 40 ∧ 1 ≤ a.i.length ∧ 1 ≤ b.i.length := ⟨ha.most, hb.most, ha.one, hb.one⟩
  have DA := Lib.hid (fun wx => aligned_any a b wx ha.fm hb.fm)
  have R1 : a.raised (max a.f.length b.f.length) < 10 ^ (1 + max a.i.length b.i.length + max a.f.length b.f.length) := by have := raised_room a b ha.fm hb.fm; omega
  have R2 : b.raised (max a.f.length b.f.length) < 10 ^ ((1 + max a.i.length b.i.length + max a.f.length b.f.length) - 1) := by
    rw [show (1 + max a.i.length b.i.length + max a.f.length b.f.length) - 1 = max a.i.length b.i.length + (max a.f.length b.f.length) by omega]
    exact raised_lt b _ _ hb.fm (by omega) (by omega)
  have R3 : 0 < b.raised (max a.f.length b.f.length) := Nat.mul_pos (by omega) (Nat.pow_pos (by omega))
  have HO : mkN a.neg (a.raised (max a.f.length b.f.length) % b.raised (max a.f.length b.f.length)) (max a.f.length b.f.length) = o := by rw [← ho]; exact rem_ref a b rfl
  have HV : (a.raised (max a.f.length b.f.length) % b.raised (max a.f.length b.f.length)) < 10 ^ (1 + max a.i.length b.i.length + max a.f.length b.f.length) := Nat.lt_of_le_of_lt (Nat.mod_le _ _) R1
  have DV : Hid (∀ (ga gb : Nat) (wx : World), Blk wx ga (nC (placed a.i a.f (1 + max a.i.length b.i.length) (max a.f.length b.f.length))) → Blk wx gb (nC (placed b.i b.f (1 + max a.i.length b.i.length) (max a.f.length b.f.length))) → Calls Tryd.prog 55 #[.slice (some ⟨ga, 0, none⟩) (1 + max a.i.length b.i.length + max a.f.length b.f.length) (1 + max a.i.length b.i.length + max a.f.length b.f.length), .slice (some ⟨gb, 0, none⟩) (1 + max a.i.length b.i.length + max a.f.length b.f.length) (1 + max a.i.length b.i.length + max a.f.length b.f.length)] wx (Divided wx (1 + max a.i.length b.i.length + max a.f.length b.f.length) (a.raised (max a.f.length b.f.length) / b.raised (max a.f.length b.f.length)) (a.raised (max a.f.length b.f.length) % b.raised (max a.f.length b.f.length)))) := by
    intro ga gb wx h1 h2
    have := divide_any (placed a.i a.f (1 + max a.i.length b.i.length) (max a.f.length b.f.length)) (placed b.i b.f (1 + max a.i.length b.i.length) (max a.f.length b.f.length)) ga gb (1 + max a.i.length b.i.length + max a.f.length b.f.length) wx h1 h2 (placed_digs ha.di ha.df) (placed_digs hb.di hb.df) (placed_len (by omega) (by omega)) (placed_len (by omega) (by omega)) (by omega) (by omega) (by rw [placed_num]; exact R2) (by rw [placed_num]; exact R3)
    rw [placed_num, placed_num] at this
    exact this
  have DM : Hid (∀ (g : Nat) (wx : World) {ng : Bool} {sI : Int}, ng = a.neg → sI = (((max a.f.length b.f.length) : Nat) : Int) → Blk wx g (nC (fixD (1 + max a.i.length b.i.length + max a.f.length b.f.length) (a.raised (max a.f.length b.f.length) % b.raised (max a.f.length b.f.length)))) → Calls Tryd.prog 34 #[.bool ng, .slice (some ⟨g, 0, none⟩) (1 + max a.i.length b.i.length + max a.f.length b.f.length) (1 + max a.i.length b.i.length + max a.f.length b.f.length), .int .i64 sI] wx fun e w' => e = .returned (.tuple #[.agg #[.bool (oN o), .string (oI o), .string (oF o)], .int .i64 (oE o)]) ∧ Below wx.heap.size wx w') := by
    intro g wx ng sI hn h3 hB
    rw [hn, h3]
    exact decimalOf_at _ _ _ g (max a.f.length b.f.length) wx o (by rw [fixD_val]; exact HO) (fixD_digs _ _) (fixD_len (by omega) HV) hB (by omega) (by omega)
  generalize (a.raised (max a.f.length b.f.length) / b.raised (max a.f.length b.f.length)) = QQ at *
  generalize (a.raised (max a.f.length b.f.length) % b.raised (max a.f.length b.f.length)) = RR at *
  clear ha hb ho h0 R1 R2 R3 HO HV
  go_enter Tryd.func43, Tryd.ntmps43
  go_wp2_with fail
  obtain ⟨W2, hW2⟩ : ∃ W2, W2 = ((w.alloc (.cells #[.bool a.neg, .string (dStr a.i), .string (dStr a.f)] 27)).alloc (.cells #[.bool b.neg, .string (dStr b.i), .string (dStr b.f)] 27)).alloc (.cells #[.bool false, .string ⟨#[]⟩, .string ⟨#[]⟩] 27) := ⟨_, rfl⟩
  obtain ⟨hb2, hz2, CA, CB, CR, FR⟩ : Below w.heap.size w W2 ∧ w.heap.size + 3 ≤ W2.heap.size ∧ Cells3 W2 w.heap.size (.bool a.neg) (.string (dStr a.i)) (.string (dStr a.f)) ∧ Cells3 W2 (w.heap.size + 1) (.bool b.neg) (.string (dStr b.i)) (.string (dStr b.f)) ∧ Cells3 W2 (w.heap.size + 2) (.bool false) (.string ⟨#[]⟩) (.string ⟨#[]⟩) ∧ ∀ i, W2.frozen? ⟨w.heap.size + 2, i, none⟩ = false := by rw [hW2]; exact ⟨below_three w _ _ _, three_boxes w _ _ _ _ _ _ _ _ _ _⟩
  have FB : ∀ i, W2.frozen? ⟨w.heap.size + 1, i, none⟩ = false := by
    rw [hW2]
    intro i
    have h1 := (two_boxes w (.bool a.neg) (.string (dStr a.i)) (.string (dStr a.f)) (.bool b.neg) (.string (dStr b.i)) (.string (dStr b.f)) 27).2.2.2
    exact frozen_keep h1 ((Below.refl _ _).alloc (Nat.le_refl _) _) (by simp) i
  rw [← hW2]
  clear hW2
  clear FB
  (with_reducible refine (DC.out _).mono ?_)
  rintro e W3 ⟨rfl, hb3⟩
  have CA3 := CA.keep hb3 (by omega)
  have CB3 := CB.keep hb3 (by omega)
  have CR3 := Lib.hid (CR.keep hb3 (by omega))
  have FR3 := Lib.hid (frozen_keep FR hb3 (by omega))
  have hz3 : w.heap.size + 3 ≤ W3.heap.size := by have := hb3.size; omega
  have B3 := Lib.hid (hb2.trans (hb3.mono hb2.size))
  clear hb3 hb2 CA CB CR FR hz2
  obtain ⟨na0, na1, na2⟩ := CA3
  obtain ⟨nb0, nb1, nb2⟩ := CB3
  go_wp2_with fail
  (with_reducible refine (DA.out _).mono ?_)
  rintro e W4 ⟨ga, gb, rfl, hka, hkb, hb4⟩
  have KA := Lib.hid hka
  have KB := Lib.hid hkb
  have CA4 := Lib.hid (Cells3.keep (show Cells3 W3 w.heap.size _ _ _ from ⟨na0, na1, na2⟩) hb4 (by omega))
  have CB4 := Lib.hid (Cells3.keep (show Cells3 W3 (w.heap.size + 1) _ _ _ from ⟨nb0, nb1, nb2⟩) hb4 (by omega))
  have CR4 := Lib.hid (CR3.out.keep hb4 (by omega))
  have FR4 := Lib.hid (frozen_keep FR3.out hb4 (by omega))
  have hz4 : w.heap.size + 3 ≤ W4.heap.size := by have := hb4.size; omega
  have B4 := Lib.hid (B3.out.trans (hb4.mono B3.out.size))
  clear hka hkb hb4 na0 na1 na2 nb0 nb1 nb2
  go_wp2_with fail
  (with_reducible refine (DV.out _ _ _ ?_ ?_).mono ?_)
  · exact KA.out
  · exact KB.out
  rintro e W5 ⟨g, rfl, hkq, hkr, hb5⟩
  have KV := Lib.hid hkr
  have ma0 : W5.cell? ⟨w.heap.size, 0, none⟩ = some (.bool a.neg) := (CA4.out.keep hb5 (by omega)).1
  have mb0 : W5.cell? ⟨w.heap.size + 1, 0, none⟩ = some (.bool b.neg) := (CB4.out.keep hb5 (by omega)).1
  have CR5 := Lib.hid (CR4.out.keep hb5 (by omega))
  have FR5 := Lib.hid (frozen_keep FR4.out hb5 (by omega))
  have hz5 : w.heap.size + 3 ≤ W5.heap.size := by have := hb5.size; omega
  have B5 := Lib.hid (B4.out.trans (hb5.mono B4.out.size))
  clear hkq hkr hb5 CA4 CB4 CR4 FR4 hz4 B4 CR3 FR3 hz3 B3 KA KB
  go_wp2_with fail
  (with_reducible refine (DM.out _ _ ?_ ?_ ?_).mono ?_)
  · rfl
  · first | rfl | omega
  · exact KV.out
  rintro e wB ⟨rfl, hbB⟩
  obtain ⟨r0, r1, r2⟩ := CR5.out.keep hbB (by omega)
  have z0 := frozen_keep FR5.out hbB (by omega)
  obtain ⟨e0, e1, e2⟩ := res_cells r0 r1 r2 (.bool (oN o)) (.string (oI o)) (.string (oF o))
  go_wp2
  exact bodyPost_ret (v := .tuple #[.agg #[.bool (oN o), .string (oI o), .string (oF o)], .int .i64 (oE o)]) (by simp [results, Tryd.results43, go_sem, e0, e1, e2]) rfl ⟨rfl, res_below (B5.out.trans (hbB.mono B5.out.size)) (by omega) _ _ _⟩
end Go.Proofs.YtmggdnnffdaffaaDoor
