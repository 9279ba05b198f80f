/- The reference's Div and Rem, and DecimalDivides' told. -/
import Derived.Test.YtpbljcjghjbjdaaDoorDRefDiv
namespace Go.Proofs.YtpbljcjghjbjdaaDoor
open Go.RowKit
attribute [local go_sem ↓] Go.wp_at_zero Go.wp_at_succ

set_option maxHeartbeats 2000000 in
set_option maxRecDepth 100000 in
theorem refRem_err (na nb : Bool) (ia fa ib fb : ByteArray) (e : Int) (w : World) (HV : ∀ wx : World, Calls Tryd.prog 103 #[.agg #[.bool na, .string ia, .string fa], .agg #[.bool nb, .string ib, .string fb]] wx fun r w' => r = .returned (.tuple #[.string ⟨#[]⟩, .string ⟨#[]⟩, .int .i64 0, .int .i64 e]) ∧ Below wx.heap.size wx w') (he : e ≠ 0) :
    Calls Tryd.prog 61 #[.agg #[.bool na, .string ia, .string fa], .agg #[.bool nb, .string ib, .string fb]] w fun r w' => r = .returned (.tuple #[.agg #[.bool false, .string ⟨#[]⟩, .string ⟨#[]⟩], .int .i64 e]) ∧ Below w.heap.size w w' := by
  have DV := Lib.hid HV
  have qe : (e != 0) = true := by simpa using he
  clear HV he
  go_enter Tryd.func61, Tryd.ntmps61
  go_wp2_with fail
  obtain ⟨W2, hW2⟩ : ∃ W2, W2 = ((w.alloc (.cells #[.bool na, .string ia, .string fa] 23)).alloc (.cells #[.bool nb, .string ib, .string fb] 23)).alloc (.cells #[.bool false, .string ⟨#[]⟩, .string ⟨#[]⟩] 23) := ⟨_, rfl⟩
  obtain ⟨hb2, hz2, CA, CB, CR, FR⟩ : Below w.heap.size w W2 ∧ w.heap.size + 3 ≤ W2.heap.size ∧ Cells3 W2 w.heap.size (.bool na) (.string ia) (.string fa) ∧ Cells3 W2 (w.heap.size + 1) (.bool nb) (.string ib) (.string fb) ∧ Cells3 W2 (w.heap.size + 2) (.bool false) (.string ⟨#[]⟩) (.string ⟨#[]⟩) ∧ ∀ i, W2.frozen? ⟨w.heap.size + 2, i, none⟩ = false := by rw [hW2]; exact ⟨below_three w _ _ _, three_boxes w _ _ _ _ _ _ _ _ _ _⟩
  rw [← hW2]
  clear hW2
  (with_reducible refine (DV.out _).mono ?_)
  rintro e3 W3 ⟨rfl, hb3⟩
  obtain ⟨r0, r1, r2⟩ := CR.keep hb3 (by omega)
  have z0 := frozen_keep FR hb3 (by omega)
  have B3 := Lib.hid (hb2.trans (hb3.mono hb2.size))
  obtain ⟨e0, e1, e2⟩ := res_cells r0 r1 r2 (.bool false) (.string ⟨#[]⟩) (.string ⟨#[]⟩)
  clear hb3 hb2 CA CB CR FR
  go_wp2
  exact bodyPost_ret (v := .tuple #[.agg #[.bool false, .string ⟨#[]⟩, .string ⟨#[]⟩], .int .i64 e]) (by simp [results, Tryd.results61, go_sem, e0, e1, e2]) rfl ⟨rfl, res_below B3.out (by omega) _ _ _⟩

set_option maxHeartbeats 2000000 in
set_option maxRecDepth 100000 in
theorem refRem_ok (a b : Dc) (w : World) (o : Option Dc) (ho : remD a b = o) (ha : a.Ok) (hb : b.Ok) (h0 : b.num ≠ 0) :
    Calls Tryd.prog 61 #[.agg #[.bool a.neg, .string (dStr a.i), .string (dStr a.f)], .agg #[.bool b.neg, .string (dStr b.i), .string (dStr b.f)]] w fun r w' => r = .returned (.tuple #[.agg #[.bool (oN o), .string (oI o), .string (oF o)], .int .i64 (oE o)]) ∧ Below w.heap.size w w' := by
  have DV := Lib.hid (fun wx => divided_ok a b (max a.f.length b.f.length) rfl wx ha hb h0)
  have s3 : (max a.f.length b.f.length) ≤ 40 := by have := ha.most; have := hb.most; omega
  have HO : mkN a.neg (a.raised (max a.f.length b.f.length) % b.raised (max a.f.length b.f.length)) (max a.f.length b.f.length) = o := by rw [← ho]; exact rem_ref a b rfl
  have R1 := raised_lt a 40 (max a.f.length b.f.length) ha.fm (by have := ha.most; omega) (by omega)
  have LV : (digs (a.raised (max a.f.length b.f.length) % b.raised (max a.f.length b.f.length))).length ≤ 100 := by
    have := (digs_le (a.raised (max a.f.length b.f.length) % b.raised (max a.f.length b.f.length)) (40 + (max a.f.length b.f.length)) (by omega)).2 (Nat.lt_of_le_of_lt (Nat.mod_le _ _) R1)
    omega
  have DM : Hid (∀ (wx : World) {ng : Bool} {sI : Int}, ng = a.neg → sI = (((max a.f.length b.f.length) : Nat) : Int) → Calls Tryd.prog 104 #[.bool ng, .string (dStr (digs (a.raised (max a.f.length b.f.length) % b.raised (max a.f.length b.f.length)))), .int .i64 sI] wx fun r w' => r = .returned (.tuple #[.agg #[.bool (oN o), .string (oI o), .string (oF o)], .int .i64 (oE o)]) ∧ Below wx.heap.size wx w') := by
    intro wx ng sI hn hs
    rw [hn, hs]
    exact refMake_any a.neg (digs (a.raised (max a.f.length b.f.length) % b.raised (max a.f.length b.f.length))) (max a.f.length b.f.length) wx o (by rw [dVal_digs]; exact HO) (digs_digs _) (by omega) (by omega)
  generalize a.raised (max a.f.length b.f.length) / b.raised (max a.f.length b.f.length) = QQ at *
  generalize a.raised (max a.f.length b.f.length) % b.raised (max a.f.length b.f.length) = RR at *
  clear ha hb h0 ho s3 HO R1 LV
  go_enter Tryd.func61, Tryd.ntmps61
  go_wp2_with fail
  obtain ⟨W2, hW2⟩ : ∃ W2, W2 = ((w.alloc (.cells #[.bool a.neg, .string (dStr a.i), .string (dStr a.f)] 23)).alloc (.cells #[.bool b.neg, .string (dStr b.i), .string (dStr b.f)] 23)).alloc (.cells #[.bool false, .string ⟨#[]⟩, .string ⟨#[]⟩] 23) := ⟨_, rfl⟩
  obtain ⟨hb2, hz2, CA, CB, CR, FR⟩ : Below w.heap.size w W2 ∧ w.heap.size + 3 ≤ W2.heap.size ∧ Cells3 W2 w.heap.size (.bool a.neg) (.string (dStr a.i)) (.string (dStr a.f)) ∧ Cells3 W2 (w.heap.size + 1) (.bool b.neg) (.string (dStr b.i)) (.string (dStr b.f)) ∧ Cells3 W2 (w.heap.size + 2) (.bool false) (.string ⟨#[]⟩) (.string ⟨#[]⟩) ∧ ∀ i, W2.frozen? ⟨w.heap.size + 2, i, none⟩ = false := by rw [hW2]; exact ⟨below_three w _ _ _, three_boxes w _ _ _ _ _ _ _ _ _ _⟩
  rw [← hW2]
  clear hW2
  (with_reducible refine (DV.out _).mono ?_)
  rintro e3 W3 ⟨rfl, hb3⟩
  obtain ⟨na0, na1, na2⟩ := CA.keep hb3 (by omega)
  obtain ⟨nb0, nb1, nb2⟩ := CB.keep hb3 (by omega)
  have CR3 := Lib.hid (CR.keep hb3 (by omega))
  have FR3 := Lib.hid (frozen_keep FR hb3 (by omega))
  have hz3 : w.heap.size + 3 ≤ W3.heap.size := by have := hb3.size; omega
  have B3 := Lib.hid (hb2.trans (hb3.mono hb2.size))
  clear hb3 hb2 CA CB CR FR
  go_wp2_with fail
  (with_reducible refine (DM.out _ ?_ ?_).mono ?_)
  · rfl
  · first | rfl | omega
  rintro e wB ⟨rfl, hbB⟩
  obtain ⟨r0, r1, r2⟩ := CR3.out.keep hbB (by omega)
  have z0 := frozen_keep FR3.out hbB (by omega)
  obtain ⟨e0, e1, e2⟩ := res_cells r0 r1 r2 (.bool (oN o)) (.string (oI o)) (.string (oF o))
  go_wp2
  exact bodyPost_ret (v := .tuple #[.agg #[.bool (oN o), .string (oI o), .string (oF o)], .int .i64 (oE o)]) (by simp [results, Tryd.results61, go_sem, e0, e1, e2]) rfl ⟨rfl, res_below (B3.out.trans (hbB.mono B3.out.size)) (by omega) _ _ _⟩
end Go.Proofs.YtpbljcjghjbjdaaDoor
