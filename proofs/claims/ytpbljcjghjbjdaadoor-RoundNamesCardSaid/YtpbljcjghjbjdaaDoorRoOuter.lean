/- isOuter. -/
import Derived.Test.YtpbljcjghjbjdaaDoorRoM
namespace Go.Proofs.YtpbljcjghjbjdaaDoor
open Go.RowKit
attribute [local go_sem ↓] Go.wp_at_zero Go.wp_at_succ

set_option maxHeartbeats 4000000 in
set_option maxRecDepth 100000 in
theorem outer_core (an rn : Bool) (ai af ri rf ui uf : ByteArray) (mode cc : Int) (odd : Bool) (w : World) (m1 : 1 ≤ mode) (m7 : mode ≤ 7) (HC : 5 ≤ mode → (∀ wx : World, Calls Tryd.prog 191 #[(.agg #[.bool rn, .string ri, .string rf]), (.agg #[.bool false, .string ui, .string uf])] wx fun e w' => e = .returned (.int .i64 cc) ∧ Below wx.heap.size wx w')) (HO : mode = 7 → (∀ wx : World, Calls Tryd.prog 192 #[(.agg #[.bool an, .string ai, .string af]), (.agg #[.bool false, .string ui, .string uf])] wx fun e w' => e = .returned (.bool odd) ∧ Below wx.heap.size wx w')) :
    Calls Tryd.prog 177 #[(.agg #[.bool an, .string ai, .string af]), .int .i64 mode, (.agg #[.bool rn, .string ri, .string rf]), (.agg #[.bool false, .string ui, .string uf])] w fun e w' => e = .returned (.bool (upB mode an odd cc)) ∧ Below w.heap.size w w' := by
  have DC0 := Lib.hid HC
  have DO0 := Lib.hid HO
  clear HC HO
  rcases (by omega : mode = 1 ∨ mode = 2 ∨ mode = 3 ∨ mode = 4 ∨ mode = 5 ∨ mode = 6 ∨ mode = 7) with rfl | rfl | rfl | rfl | rfl | rfl | rfl
  · have HR : Hid (upB 1 an odd cc = true) := by show _ = _; unfold upB; simp
    go_enter Tryd.func177, Tryd.ntmps177
    go_wp2
    go_ret
    exact ⟨ret_bool HR.out.symm, below_three w _ _ _⟩
  · have HR : Hid (upB 2 an odd cc = false) := by show _ = _; unfold upB; simp
    go_enter Tryd.func177, Tryd.ntmps177
    go_wp2
    go_ret
    exact ⟨ret_bool HR.out.symm, below_three w _ _ _⟩
  · have HR : Hid (upB 3 an odd cc = !an) := by show _ = _; unfold upB; simp
    go_enter Tryd.func177, Tryd.ntmps177
    go_wp2
    go_ret
    exact ⟨ret_bool HR.out.symm, below_three w _ _ _⟩
  · have HR : Hid (upB 4 an odd cc = an) := by show _ = _; unfold upB; simp
    go_enter Tryd.func177, Tryd.ntmps177
    go_wp2
    go_ret
    exact ⟨ret_bool HR.out.symm, below_three w _ _ _⟩
  · have DC := Lib.hid (DC0.out (by omega))
    by_cases h0 : cc = 0
    · have q : (cc == 0) = true := beq_iff_eq.2 h0
      have HR : Hid (upB 5 an odd cc = true) := by show _ = _; unfold upB; simp [h0]
      clear h0
      go_enter Tryd.func177, Tryd.ntmps177
      go_wp2_with fail
      obtain ⟨W2, hW2⟩ : ∃ W2, W2 = ((w.alloc (.cells #[.bool an, .string ai, .string af] 23)).alloc (.cells #[.bool rn, .string ri, .string rf] 23)).alloc (.cells #[.bool false, .string ui, .string uf] 23) := ⟨_, rfl⟩
      obtain ⟨hb2, hz2, CA, CB, CU, _⟩ : Below w.heap.size w W2 ∧ w.heap.size + 3 ≤ W2.heap.size ∧ Cells3 W2 w.heap.size (.bool an) (.string ai) (.string af) ∧ Cells3 W2 (w.heap.size + 1) (.bool rn) (.string ri) (.string rf) ∧ Cells3 W2 (w.heap.size + 2) (.bool false) (.string ui) (.string uf) ∧ ∀ i, W2.frozen? ⟨w.heap.size + 2, i, none⟩ = false := by rw [hW2]; exact ⟨below_three w _ _ _, three_boxes w _ _ _ _ _ _ _ _ _ _⟩
      rw [← hW2]
      clear hW2
      (with_reducible refine (DC.out _).mono ?_)
      rintro e V3 ⟨rfl, hb3⟩
      obtain ⟨a0, a1, a2⟩ := CA.keep hb3 (by omega)
      obtain ⟨u0, u1, u2⟩ := CU.keep hb3 (by omega)
      have B3 := Lib.hid (hb2.trans (hb3.mono hb2.size))
      clear hb3 hb2 CA CB CU
      go_wp2
      go_ret
      exact ⟨ret_bool HR.out.symm, B3.out⟩
    · have q : (cc == 0) = false := beq_eq_false_iff_ne.2 h0
      have HR : Hid (upB 5 an odd cc = decide (0 < cc)) := by show _ = _; unfold upB; simp [h0]
      clear h0
      go_enter Tryd.func177, Tryd.ntmps177
      go_wp2_with fail
      obtain ⟨W2, hW2⟩ : ∃ W2, W2 = ((w.alloc (.cells #[.bool an, .string ai, .string af] 23)).alloc (.cells #[.bool rn, .string ri, .string rf] 23)).alloc (.cells #[.bool false, .string ui, .string uf] 23) := ⟨_, rfl⟩
      obtain ⟨hb2, hz2, CA, CB, CU, _⟩ : Below w.heap.size w W2 ∧ w.heap.size + 3 ≤ W2.heap.size ∧ Cells3 W2 w.heap.size (.bool an) (.string ai) (.string af) ∧ Cells3 W2 (w.heap.size + 1) (.bool rn) (.string ri) (.string rf) ∧ Cells3 W2 (w.heap.size + 2) (.bool false) (.string ui) (.string uf) ∧ ∀ i, W2.frozen? ⟨w.heap.size + 2, i, none⟩ = false := by rw [hW2]; exact ⟨below_three w _ _ _, three_boxes w _ _ _ _ _ _ _ _ _ _⟩
      rw [← hW2]
      clear hW2
      (with_reducible refine (DC.out _).mono ?_)
      rintro e V3 ⟨rfl, hb3⟩
      obtain ⟨a0, a1, a2⟩ := CA.keep hb3 (by omega)
      obtain ⟨u0, u1, u2⟩ := CU.keep hb3 (by omega)
      have B3 := Lib.hid (hb2.trans (hb3.mono hb2.size))
      clear hb3 hb2 CA CB CU
      go_wp2
      go_ret
      exact ⟨ret_bool HR.out.symm, B3.out⟩
  · have DC := Lib.hid (DC0.out (by omega))
    by_cases h0 : cc = 0
    · have q : (cc == 0) = true := beq_iff_eq.2 h0
      have HR : Hid (upB 6 an odd cc = false) := by show _ = _; unfold upB; simp [h0]
      clear h0
      go_enter Tryd.func177, Tryd.ntmps177
      go_wp2_with fail
      obtain ⟨W2, hW2⟩ : ∃ W2, W2 = ((w.alloc (.cells #[.bool an, .string ai, .string af] 23)).alloc (.cells #[.bool rn, .string ri, .string rf] 23)).alloc (.cells #[.bool false, .string ui, .string uf] 23) := ⟨_, rfl⟩
      obtain ⟨hb2, hz2, CA, CB, CU, _⟩ : Below w.heap.size w W2 ∧ w.heap.size + 3 ≤ W2.heap.size ∧ Cells3 W2 w.heap.size (.bool an) (.string ai) (.string af) ∧ Cells3 W2 (w.heap.size + 1) (.bool rn) (.string ri) (.string rf) ∧ Cells3 W2 (w.heap.size + 2) (.bool false) (.string ui) (.string uf) ∧ ∀ i, W2.frozen? ⟨w.heap.size + 2, i, none⟩ = false := by rw [hW2]; exact ⟨below_three w _ _ _, three_boxes w _ _ _ _ _ _ _ _ _ _⟩
      rw [← hW2]
      clear hW2
      (with_reducible refine (DC.out _).mono ?_)
      rintro e V3 ⟨rfl, hb3⟩
      obtain ⟨a0, a1, a2⟩ := CA.keep hb3 (by omega)
      obtain ⟨u0, u1, u2⟩ := CU.keep hb3 (by omega)
      have B3 := Lib.hid (hb2.trans (hb3.mono hb2.size))
      clear hb3 hb2 CA CB CU
      go_wp2
      go_ret
      exact ⟨ret_bool HR.out.symm, B3.out⟩
    · have q : (cc == 0) = false := beq_eq_false_iff_ne.2 h0
      have HR : Hid (upB 6 an odd cc = decide (0 < cc)) := by show _ = _; unfold upB; simp [h0]
      clear h0
      go_enter Tryd.func177, Tryd.ntmps177
      go_wp2_with fail
      obtain ⟨W2, hW2⟩ : ∃ W2, W2 = ((w.alloc (.cells #[.bool an, .string ai, .string af] 23)).alloc (.cells #[.bool rn, .string ri, .string rf] 23)).alloc (.cells #[.bool false, .string ui, .string uf] 23) := ⟨_, rfl⟩
      obtain ⟨hb2, hz2, CA, CB, CU, _⟩ : Below w.heap.size w W2 ∧ w.heap.size + 3 ≤ W2.heap.size ∧ Cells3 W2 w.heap.size (.bool an) (.string ai) (.string af) ∧ Cells3 W2 (w.heap.size + 1) (.bool rn) (.string ri) (.string rf) ∧ Cells3 W2 (w.heap.size + 2) (.bool false) (.string ui) (.string uf) ∧ ∀ i, W2.frozen? ⟨w.heap.size + 2, i, none⟩ = false := by rw [hW2]; exact ⟨below_three w _ _ _, three_boxes w _ _ _ _ _ _ _ _ _ _⟩
      rw [← hW2]
      clear hW2
      (with_reducible refine (DC.out _).mono ?_)
      rintro e V3 ⟨rfl, hb3⟩
      obtain ⟨a0, a1, a2⟩ := CA.keep hb3 (by omega)
      obtain ⟨u0, u1, u2⟩ := CU.keep hb3 (by omega)
      have B3 := Lib.hid (hb2.trans (hb3.mono hb2.size))
      clear hb3 hb2 CA CB CU
      go_wp2
      go_ret
      exact ⟨ret_bool HR.out.symm, B3.out⟩
  · have DC := Lib.hid (DC0.out (by omega))
    have DO := Lib.hid (DO0.out rfl)
    by_cases h0 : cc = 0
    · have q : (cc == 0) = true := beq_iff_eq.2 h0
      have HR : Hid (upB 7 an odd cc = odd) := by show _ = _; unfold upB; simp [h0]
      clear h0
      go_enter Tryd.func177, Tryd.ntmps177
      go_wp2_with fail
      obtain ⟨W2, hW2⟩ : ∃ W2, W2 = ((w.alloc (.cells #[.bool an, .string ai, .string af] 23)).alloc (.cells #[.bool rn, .string ri, .string rf] 23)).alloc (.cells #[.bool false, .string ui, .string uf] 23) := ⟨_, rfl⟩
      obtain ⟨hb2, hz2, CA, CB, CU, _⟩ : Below w.heap.size w W2 ∧ w.heap.size + 3 ≤ W2.heap.size ∧ Cells3 W2 w.heap.size (.bool an) (.string ai) (.string af) ∧ Cells3 W2 (w.heap.size + 1) (.bool rn) (.string ri) (.string rf) ∧ Cells3 W2 (w.heap.size + 2) (.bool false) (.string ui) (.string uf) ∧ ∀ i, W2.frozen? ⟨w.heap.size + 2, i, none⟩ = false := by rw [hW2]; exact ⟨below_three w _ _ _, three_boxes w _ _ _ _ _ _ _ _ _ _⟩
      rw [← hW2]
      clear hW2
      (with_reducible refine (DC.out _).mono ?_)
      rintro e V3 ⟨rfl, hb3⟩
      obtain ⟨a0, a1, a2⟩ := CA.keep hb3 (by omega)
      obtain ⟨u0, u1, u2⟩ := CU.keep hb3 (by omega)
      have B3 := Lib.hid (hb2.trans (hb3.mono hb2.size))
      clear hb3 hb2 CA CB CU
      go_wp2_with fail
      (with_reducible refine (DO.out _).mono ?_)
      rintro e V5 ⟨rfl, hb5⟩
      go_wp2
      go_ret
      exact ⟨ret_bool HR.out.symm, B3.out.trans (hb5.mono B3.out.size)⟩
    · have q : (cc == 0) = false := beq_eq_false_iff_ne.2 h0
      have HR : Hid (upB 7 an odd cc = decide (0 < cc)) := by show _ = _; unfold upB; simp [h0]
      clear h0
      go_enter Tryd.func177, Tryd.ntmps177
      go_wp2_with fail
      obtain ⟨W2, hW2⟩ : ∃ W2, W2 = ((w.alloc (.cells #[.bool an, .string ai, .string af] 23)).alloc (.cells #[.bool rn, .string ri, .string rf] 23)).alloc (.cells #[.bool false, .string ui, .string uf] 23) := ⟨_, rfl⟩
      obtain ⟨hb2, hz2, CA, CB, CU, _⟩ : Below w.heap.size w W2 ∧ w.heap.size + 3 ≤ W2.heap.size ∧ Cells3 W2 w.heap.size (.bool an) (.string ai) (.string af) ∧ Cells3 W2 (w.heap.size + 1) (.bool rn) (.string ri) (.string rf) ∧ Cells3 W2 (w.heap.size + 2) (.bool false) (.string ui) (.string uf) ∧ ∀ i, W2.frozen? ⟨w.heap.size + 2, i, none⟩ = false := by rw [hW2]; exact ⟨below_three w _ _ _, three_boxes w _ _ _ _ _ _ _ _ _ _⟩
      rw [← hW2]
      clear hW2
      (with_reducible refine (DC.out _).mono ?_)
      rintro e V3 ⟨rfl, hb3⟩
      obtain ⟨a0, a1, a2⟩ := CA.keep hb3 (by omega)
      obtain ⟨u0, u1, u2⟩ := CU.keep hb3 (by omega)
      have B3 := Lib.hid (hb2.trans (hb3.mono hb2.size))
      clear hb3 hb2 CA CB CU
      go_wp2
      go_ret
      exact ⟨ret_bool HR.out.symm, B3.out⟩
end Go.Proofs.YtpbljcjghjbjdaaDoor
