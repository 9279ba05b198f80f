/- The reference's Trim, Pad, Shift where there is an error. -/
import Derived.Test.YtcdmanhhddcmcaaDRef2
import Derived.Test.YtcdmanhhddcmcaaDRef1
namespace Go.Proofs.Ytcdmanhhddcmcaa
open Go.RowKit
attribute [local go_sem ↓] Go.wp_at_zero Go.wp_at_succ

set_option maxHeartbeats 1000000 in
set_option maxRecDepth 100000 in
theorem refTrim_err (dn : Bool) (di df : ByteArray) (e : Int) (w : World) (HC : ∀ wx : World, Calls Try.prog 39 #[(.agg #[.bool dn, .string di, .string df])] wx fun r w' => r = .returned (.int .i64 e) ∧ Below wx.heap.size wx w') (he : e ≠ 0) :
    Calls Try.prog 76 #[(.agg #[.bool dn, .string di, .string df])] w fun r w' => r = .returned (.tuple #[.agg #[.bool false, .string ⟨#[]⟩, .string ⟨#[]⟩], .int .i64 e]) ∧ Below w.heap.size w w' := by
  have DC := Lib.hid HC
  have qe : (e != 0) = true := by simpa using he
  clear HC he
  go_enter Try.func76, Try.ntmps76
  go_wp2_with fail
  obtain ⟨W2, hW2⟩ : ∃ W2, W2 = (w.alloc (.cells #[.bool dn, .string di, .string df] 23)).alloc (.cells #[.bool false, .string ⟨#[]⟩, .string ⟨#[]⟩] 23) := ⟨_, rfl⟩
  obtain ⟨hb2, hz2, CA, CR, FR⟩ : Below w.heap.size w W2 ∧ w.heap.size + 2 ≤ W2.heap.size ∧ Cells3 W2 w.heap.size (.bool dn) (.string di) (.string df) ∧ Cells3 W2 (w.heap.size + 1) (.bool false) (.string ⟨#[]⟩) (.string ⟨#[]⟩) ∧ ∀ i, W2.frozen? ⟨w.heap.size + 1, i, none⟩ = false := by rw [hW2]; exact ⟨below_two w _ _, two_boxes w _ _ _ _ _ _ _⟩
  rw [← hW2]
  clear hW2
  (with_reducible refine (DC.out _).mono ?_)
  rintro e3 W3 ⟨rfl, hb3⟩
  have CR3 := CR.keep hb3 (by omega)
  have FR3 := frozen_keep FR hb3 (by omega)
  have hz3 : w.heap.size + 2 ≤ W3.heap.size := by have := hb3.size; omega
  have B3 := hb2.trans (hb3.mono hb2.size)
  clear hb3 hb2 CA CR FR hz2
  obtain ⟨r0, r1, r2⟩ := CR3
  have z0 := FR3
  obtain ⟨e0, e1, e2⟩ := res_cells r0 r1 r2 (.bool false) (.string ⟨#[]⟩) (.string ⟨#[]⟩)
  have HBl := Lib.hid (res_below B3 (Nat.le_succ _) (.bool false) (.string ⟨#[]⟩) (.string ⟨#[]⟩))
  clear B3
  go_wp2
  exact bodyPost_ret (v := .tuple #[.agg #[.bool false, .string ⟨#[]⟩, .string ⟨#[]⟩], .int .i64 e]) (by simp [results, Try.results76, go_sem, e0, e1, e2]) rfl ⟨rfl, HBl.out⟩

set_option maxHeartbeats 2000000 in
set_option maxRecDepth 100000 in
theorem refPad_err (dn : Bool) (di df : ByteArray) (k c e : Int) (w : World) (HC : ∀ wx : World, Calls Try.prog 39 #[(.agg #[.bool dn, .string di, .string df])] wx fun r w' => r = .returned (.int .i64 c) ∧ Below wx.heap.size wx w') (he : e ≠ 0) (hF : firstE c (ifE (decide (k < 0) || decide (40 < k)) 1) = e) :
    Calls Try.prog 43 #[(.agg #[.bool dn, .string di, .string df]), .int .i64 k] w fun r w' => r = .returned (.tuple #[.agg #[.bool false, .string ⟨#[]⟩, .string ⟨#[]⟩], .int .i64 e]) ∧ Below w.heap.size w w' := by
  have DC := Lib.hid HC
  have qe : (e != 0) = true := by simpa using he
  clear HC he
  have DF0 : ∀ (x : Int) (g : Nat) (wx : World), firstE c x = e → g = wx.heap.size → Calls Try.prog 38 #[.slice (some ⟨g, 0, none⟩) 2 2] (wx.alloc (.cells #[.int .i64 c, .int .i64 x] 26)) fun r w' => r = .returned (.int .i64 e) ∧ Below wx.heap.size wx w' := fun x g wx hx hg => by
    subst hg
    refine (refFirst_two c x wx.heap.size _ _ _ (heap_alloc_new wx _)).mono ?_
    rintro r w' ⟨rfl, rfl⟩
    exact ⟨by rw [hx], (Below.refl _ _).alloc (Nat.le_refl _) _⟩
  rcases (by omega : k < 0 ∨ (¬ k < 0 ∧ 40 < k) ∨ (¬ k < 0 ∧ ¬ 40 < k)) with h | ⟨h, h'⟩ | ⟨h, h'⟩
  · have q0 : decide (k < 0) = true := decide_eq_true h
    have hx : firstE c 1 = e := by rw [← hF, q0]; rfl
    have DI : Hid (∀ wx : World, Calls Try.prog 40 #[.bool true, .int .i64 1] wx fun r w' => r = .returned (.int .i64 1) ∧ wx = w') := fun wx => refIf_any true 1 wx
    have DFi := Lib.hid (fun g wx => DF0 1 g wx hx)
    clear DF0 hF hx h
    go_enter Try.func43, Try.ntmps43
    go_wp2_with fail
    obtain ⟨W2, hW2⟩ : ∃ W2, W2 = (w.alloc (.cells #[.bool dn, .string di, .string df] 23)).alloc (.cells #[.bool false, .string ⟨#[]⟩, .string ⟨#[]⟩] 23) := ⟨_, rfl⟩
    obtain ⟨hb2, hz2, CA, CR, FR⟩ : Below w.heap.size w W2 ∧ w.heap.size + 2 ≤ W2.heap.size ∧ Cells3 W2 w.heap.size (.bool dn) (.string di) (.string df) ∧ Cells3 W2 (w.heap.size + 1) (.bool false) (.string ⟨#[]⟩) (.string ⟨#[]⟩) ∧ ∀ i, W2.frozen? ⟨w.heap.size + 1, i, none⟩ = false := by rw [hW2]; exact ⟨below_two w _ _, two_boxes w _ _ _ _ _ _ _⟩
    rw [← hW2]
    clear hW2
    (with_reducible refine (DC.out _).mono ?_)
    rintro e3 W3 ⟨rfl, hb3⟩
    have CR3 := CR.keep hb3 (by omega)
    have FR3 := frozen_keep FR hb3 (by omega)
    have hz3 : w.heap.size + 2 ≤ W3.heap.size := by have := hb3.size; omega
    have B3 := hb2.trans (hb3.mono hb2.size)
    clear hb3 hb2 CA CR FR hz2
    have CR3 := Lib.hid CR3
    have FR3 := Lib.hid FR3
    have B3 := Lib.hid B3
    go_wp2_with fail
    (with_reducible refine (DI.out _).mono ?_)
    rintro e4 W4 ⟨rfl, rfl⟩
    go_wp2_with fail
    (with_reducible refine (DFi.out _ _ ?_).mono ?_)
    · rfl
    rintro e5 W5 ⟨rfl, hb5⟩
    have CR3 := CR3.out.keep hb5 (by omega)
    have FR3 := frozen_keep FR3.out hb5 (by omega)
    have hz3 : w.heap.size + 2 ≤ W5.heap.size := by have := hb5.size; omega
    have B3 := B3.out.trans (hb5.mono B3.out.size)
    clear hb5
    obtain ⟨r0, r1, r2⟩ := CR3
    have z0 := FR3
    obtain ⟨e0, e1, e2⟩ := res_cells r0 r1 r2 (.bool false) (.string ⟨#[]⟩) (.string ⟨#[]⟩)
    have HBl := Lib.hid (res_below B3 (Nat.le_succ _) (.bool false) (.string ⟨#[]⟩) (.string ⟨#[]⟩))
    clear B3
    go_wp2
    exact bodyPost_ret (v := .tuple #[.agg #[.bool false, .string ⟨#[]⟩, .string ⟨#[]⟩], .int .i64 e]) (by simp [results, Try.results43, go_sem, e0, e1, e2]) rfl ⟨rfl, HBl.out⟩
  · have q0 : decide (k < 0) = false := decide_eq_false h
    have q1 : decide (40 < k) = true := decide_eq_true h'
    have hx : firstE c 1 = e := by rw [← hF, q0, q1]; rfl
    have DI : Hid (∀ wx : World, Calls Try.prog 40 #[.bool true, .int .i64 1] wx fun r w' => r = .returned (.int .i64 1) ∧ wx = w') := fun wx => refIf_any true 1 wx
    have DFi := Lib.hid (fun g wx => DF0 1 g wx hx)
    clear DF0 hF hx h h'
    go_enter Try.func43, Try.ntmps43
    go_wp2_with fail
    obtain ⟨W2, hW2⟩ : ∃ W2, W2 = (w.alloc (.cells #[.bool dn, .string di, .string df] 23)).alloc (.cells #[.bool false, .string ⟨#[]⟩, .string ⟨#[]⟩] 23) := ⟨_, rfl⟩
    obtain ⟨hb2, hz2, CA, CR, FR⟩ : Below w.heap.size w W2 ∧ w.heap.size + 2 ≤ W2.heap.size ∧ Cells3 W2 w.heap.size (.bool dn) (.string di) (.string df) ∧ Cells3 W2 (w.heap.size + 1) (.bool false) (.string ⟨#[]⟩) (.string ⟨#[]⟩) ∧ ∀ i, W2.frozen? ⟨w.heap.size + 1, i, none⟩ = false := by rw [hW2]; exact ⟨below_two w _ _, two_boxes w _ _ _ _ _ _ _⟩
    rw [← hW2]
    clear hW2
    (with_reducible refine (DC.out _).mono ?_)
    rintro e3 W3 ⟨rfl, hb3⟩
    have CR3 := CR.keep hb3 (by omega)
    have FR3 := frozen_keep FR hb3 (by omega)
    have hz3 : w.heap.size + 2 ≤ W3.heap.size := by have := hb3.size; omega
    have B3 := hb2.trans (hb3.mono hb2.size)
    clear hb3 hb2 CA CR FR hz2
    have CR3 := Lib.hid CR3
    have FR3 := Lib.hid FR3
    have B3 := Lib.hid B3
    go_wp2_with fail
    (with_reducible refine (DI.out _).mono ?_)
    rintro e4 W4 ⟨rfl, rfl⟩
    go_wp2_with fail
    (with_reducible refine (DFi.out _ _ ?_).mono ?_)
    · rfl
    rintro e5 W5 ⟨rfl, hb5⟩
    have CR3 := CR3.out.keep hb5 (by omega)
    have FR3 := frozen_keep FR3.out hb5 (by omega)
    have hz3 : w.heap.size + 2 ≤ W5.heap.size := by have := hb5.size; omega
    have B3 := B3.out.trans (hb5.mono B3.out.size)
    clear hb5
    obtain ⟨r0, r1, r2⟩ := CR3
    have z0 := FR3
    obtain ⟨e0, e1, e2⟩ := res_cells r0 r1 r2 (.bool false) (.string ⟨#[]⟩) (.string ⟨#[]⟩)
    have HBl := Lib.hid (res_below B3 (Nat.le_succ _) (.bool false) (.string ⟨#[]⟩) (.string ⟨#[]⟩))
    clear B3
    go_wp2
    exact bodyPost_ret (v := .tuple #[.agg #[.bool false, .string ⟨#[]⟩, .string ⟨#[]⟩], .int .i64 e]) (by simp [results, Try.results43, go_sem, e0, e1, e2]) rfl ⟨rfl, HBl.out⟩
  · have q0 : decide (k < 0) = false := decide_eq_false h
    have q1 : decide (40 < k) = false := decide_eq_false h'
    have hx : firstE c 0 = e := by rw [← hF, q0, q1]; rfl
    have DI : Hid (∀ wx : World, Calls Try.prog 40 #[.bool false, .int .i64 1] wx fun r w' => r = .returned (.int .i64 0) ∧ wx = w') := fun wx => refIf_any false 1 wx
    have DFi := Lib.hid (fun g wx => DF0 0 g wx hx)
    clear DF0 hF hx h h'
    go_enter Try.func43, Try.ntmps43
    go_wp2_with fail
    obtain ⟨W2, hW2⟩ : ∃ W2, W2 = (w.alloc (.cells #[.bool dn, .string di, .string df] 23)).alloc (.cells #[.bool false, .string ⟨#[]⟩, .string ⟨#[]⟩] 23) := ⟨_, rfl⟩
    obtain ⟨hb2, hz2, CA, CR, FR⟩ : Below w.heap.size w W2 ∧ w.heap.size + 2 ≤ W2.heap.size ∧ Cells3 W2 w.heap.size (.bool dn) (.string di) (.string df) ∧ Cells3 W2 (w.heap.size + 1) (.bool false) (.string ⟨#[]⟩) (.string ⟨#[]⟩) ∧ ∀ i, W2.frozen? ⟨w.heap.size + 1, i, none⟩ = false := by rw [hW2]; exact ⟨below_two w _ _, two_boxes w _ _ _ _ _ _ _⟩
    rw [← hW2]
    clear hW2
    (with_reducible refine (DC.out _).mono ?_)
    rintro e3 W3 ⟨rfl, hb3⟩
    have CR3 := CR.keep hb3 (by omega)
    have FR3 := frozen_keep FR hb3 (by omega)
    have hz3 : w.heap.size + 2 ≤ W3.heap.size := by have := hb3.size; omega
    have B3 := hb2.trans (hb3.mono hb2.size)
    clear hb3 hb2 CA CR FR hz2
    have CR3 := Lib.hid CR3
    have FR3 := Lib.hid FR3
    have B3 := Lib.hid B3
    go_wp2_with fail
    (with_reducible refine (DI.out _).mono ?_)
    rintro e4 W4 ⟨rfl, rfl⟩
    go_wp2_with fail
    (with_reducible refine (DFi.out _ _ ?_).mono ?_)
    · rfl
    rintro e5 W5 ⟨rfl, hb5⟩
    have CR3 := CR3.out.keep hb5 (by omega)
    have FR3 := frozen_keep FR3.out hb5 (by omega)
    have hz3 : w.heap.size + 2 ≤ W5.heap.size := by have := hb5.size; omega
    have B3 := B3.out.trans (hb5.mono B3.out.size)
    clear hb5
    obtain ⟨r0, r1, r2⟩ := CR3
    have z0 := FR3
    obtain ⟨e0, e1, e2⟩ := res_cells r0 r1 r2 (.bool false) (.string ⟨#[]⟩) (.string ⟨#[]⟩)
    have HBl := Lib.hid (res_below B3 (Nat.le_succ _) (.bool false) (.string ⟨#[]⟩) (.string ⟨#[]⟩))
    clear B3
    go_wp2
    exact bodyPost_ret (v := .tuple #[.agg #[.bool false, .string ⟨#[]⟩, .string ⟨#[]⟩], .int .i64 e]) (by simp [results, Try.results43, go_sem, e0, e1, e2]) rfl ⟨rfl, HBl.out⟩

set_option maxHeartbeats 2000000 in
set_option maxRecDepth 100000 in
theorem refShift_err (dn : Bool) (di df : ByteArray) (k c e : Int) (w : World) (HC : ∀ wx : World, Calls Try.prog 39 #[(.agg #[.bool dn, .string di, .string df])] wx fun r w' => r = .returned (.int .i64 c) ∧ Below wx.heap.size wx w') (he : e ≠ 0) (hF : firstE c (ifE (decide (k < -40) || decide (40 < k)) 1) = e) :
    Calls Try.prog 41 #[(.agg #[.bool dn, .string di, .string df]), .int .i64 k] w fun r w' => r = .returned (.tuple #[.agg #[.bool false, .string ⟨#[]⟩, .string ⟨#[]⟩], .int .i64 e]) ∧ Below w.heap.size w w' := by
  have DC := Lib.hid HC
  have qe : (e != 0) = true := by simpa using he
  clear HC he
  have DF0 : ∀ (x : Int) (g : Nat) (wx : World), firstE c x = e → g = wx.heap.size → Calls Try.prog 38 #[.slice (some ⟨g, 0, none⟩) 2 2] (wx.alloc (.cells #[.int .i64 c, .int .i64 x] 26)) fun r w' => r = .returned (.int .i64 e) ∧ Below wx.heap.size wx w' := fun x g wx hx hg => by
    subst hg
    refine (refFirst_two c x wx.heap.size _ _ _ (heap_alloc_new wx _)).mono ?_
    rintro r w' ⟨rfl, rfl⟩
    exact ⟨by rw [hx], (Below.refl _ _).alloc (Nat.le_refl _) _⟩
  rcases (by omega : k < -40 ∨ (¬ k < -40 ∧ 40 < k) ∨ (¬ k < -40 ∧ ¬ 40 < k)) with h | ⟨h, h'⟩ | ⟨h, h'⟩
  · have q0 : decide (k < -40) = true := decide_eq_true h
    have hx : firstE c 1 = e := by rw [← hF, q0]; rfl
    have DI : Hid (∀ wx : World, Calls Try.prog 40 #[.bool true, .int .i64 1] wx fun r w' => r = .returned (.int .i64 1) ∧ wx = w') := fun wx => refIf_any true 1 wx
    have DFi := Lib.hid (fun g wx => DF0 1 g wx hx)
    clear DF0 hF hx h
    go_enter Try.func41, Try.ntmps41
    go_wp2_with fail
    obtain ⟨W2, hW2⟩ : ∃ W2, W2 = (w.alloc (.cells #[.bool dn, .string di, .string df] 23)).alloc (.cells #[.bool false, .string ⟨#[]⟩, .string ⟨#[]⟩] 23) := ⟨_, rfl⟩
    obtain ⟨hb2, hz2, CA, CR, FR⟩ : Below w.heap.size w W2 ∧ w.heap.size + 2 ≤ W2.heap.size ∧ Cells3 W2 w.heap.size (.bool dn) (.string di) (.string df) ∧ Cells3 W2 (w.heap.size + 1) (.bool false) (.string ⟨#[]⟩) (.string ⟨#[]⟩) ∧ ∀ i, W2.frozen? ⟨w.heap.size + 1, i, none⟩ = false := by rw [hW2]; exact ⟨below_two w _ _, two_boxes w _ _ _ _ _ _ _⟩
    rw [← hW2]
    clear hW2
    (with_reducible refine (DC.out _).mono ?_)
    rintro e3 W3 ⟨rfl, hb3⟩
    have CR3 := CR.keep hb3 (by omega)
    have FR3 := frozen_keep FR hb3 (by omega)
    have hz3 : w.heap.size + 2 ≤ W3.heap.size := by have := hb3.size; omega
    have B3 := hb2.trans (hb3.mono hb2.size)
    clear hb3 hb2 CA CR FR hz2
    have CR3 := Lib.hid CR3
    have FR3 := Lib.hid FR3
    have B3 := Lib.hid B3
    go_wp2_with fail
    (with_reducible refine (DI.out _).mono ?_)
    rintro e4 W4 ⟨rfl, rfl⟩
    go_wp2_with fail
    (with_reducible refine (DFi.out _ _ ?_).mono ?_)
    · rfl
    rintro e5 W5 ⟨rfl, hb5⟩
    have CR3 := CR3.out.keep hb5 (by omega)
    have FR3 := frozen_keep FR3.out hb5 (by omega)
    have hz3 : w.heap.size + 2 ≤ W5.heap.size := by have := hb5.size; omega
    have B3 := B3.out.trans (hb5.mono B3.out.size)
    clear hb5
    obtain ⟨r0, r1, r2⟩ := CR3
    have z0 := FR3
    obtain ⟨e0, e1, e2⟩ := res_cells r0 r1 r2 (.bool false) (.string ⟨#[]⟩) (.string ⟨#[]⟩)
    have HBl := Lib.hid (res_below B3 (Nat.le_succ _) (.bool false) (.string ⟨#[]⟩) (.string ⟨#[]⟩))
    clear B3
    go_wp2
    exact bodyPost_ret (v := .tuple #[.agg #[.bool false, .string ⟨#[]⟩, .string ⟨#[]⟩], .int .i64 e]) (by simp [results, Try.results41, go_sem, e0, e1, e2]) rfl ⟨rfl, HBl.out⟩
  · have q0 : decide (k < -40) = false := decide_eq_false h
    have q1 : decide (40 < k) = true := decide_eq_true h'
    have hx : firstE c 1 = e := by rw [← hF, q0, q1]; rfl
    have DI : Hid (∀ wx : World, Calls Try.prog 40 #[.bool true, .int .i64 1] wx fun r w' => r = .returned (.int .i64 1) ∧ wx = w') := fun wx => refIf_any true 1 wx
    have DFi := Lib.hid (fun g wx => DF0 1 g wx hx)
    clear DF0 hF hx h h'
    go_enter Try.func41, Try.ntmps41
    go_wp2_with fail
    obtain ⟨W2, hW2⟩ : ∃ W2, W2 = (w.alloc (.cells #[.bool dn, .string di, .string df] 23)).alloc (.cells #[.bool false, .string ⟨#[]⟩, .string ⟨#[]⟩] 23) := ⟨_, rfl⟩
    obtain ⟨hb2, hz2, CA, CR, FR⟩ : Below w.heap.size w W2 ∧ w.heap.size + 2 ≤ W2.heap.size ∧ Cells3 W2 w.heap.size (.bool dn) (.string di) (.string df) ∧ Cells3 W2 (w.heap.size + 1) (.bool false) (.string ⟨#[]⟩) (.string ⟨#[]⟩) ∧ ∀ i, W2.frozen? ⟨w.heap.size + 1, i, none⟩ = false := by rw [hW2]; exact ⟨below_two w _ _, two_boxes w _ _ _ _ _ _ _⟩
    rw [← hW2]
    clear hW2
    (with_reducible refine (DC.out _).mono ?_)
    rintro e3 W3 ⟨rfl, hb3⟩
    have CR3 := CR.keep hb3 (by omega)
    have FR3 := frozen_keep FR hb3 (by omega)
    have hz3 : w.heap.size + 2 ≤ W3.heap.size := by have := hb3.size; omega
    have B3 := hb2.trans (hb3.mono hb2.size)
    clear hb3 hb2 CA CR FR hz2
    have CR3 := Lib.hid CR3
    have FR3 := Lib.hid FR3
    have B3 := Lib.hid B3
    go_wp2_with fail
    (with_reducible refine (DI.out _).mono ?_)
    rintro e4 W4 ⟨rfl, rfl⟩
    go_wp2_with fail
    (with_reducible refine (DFi.out _ _ ?_).mono ?_)
    · rfl
    rintro e5 W5 ⟨rfl, hb5⟩
    have CR3 := CR3.out.keep hb5 (by omega)
    have FR3 := frozen_keep FR3.out hb5 (by omega)
    have hz3 : w.heap.size + 2 ≤ W5.heap.size := by have := hb5.size; omega
    have B3 := B3.out.trans (hb5.mono B3.out.size)
    clear hb5
    obtain ⟨r0, r1, r2⟩ := CR3
    have z0 := FR3
    obtain ⟨e0, e1, e2⟩ := res_cells r0 r1 r2 (.bool false) (.string ⟨#[]⟩) (.string ⟨#[]⟩)
    have HBl := Lib.hid (res_below B3 (Nat.le_succ _) (.bool false) (.string ⟨#[]⟩) (.string ⟨#[]⟩))
    clear B3
    go_wp2
    exact bodyPost_ret (v := .tuple #[.agg #[.bool false, .string ⟨#[]⟩, .string ⟨#[]⟩], .int .i64 e]) (by simp [results, Try.results41, go_sem, e0, e1, e2]) rfl ⟨rfl, HBl.out⟩
  · have q0 : decide (k < -40) = false := decide_eq_false h
    have q1 : decide (40 < k) = false := decide_eq_false h'
    have hx : firstE c 0 = e := by rw [← hF, q0, q1]; rfl
    have DI : Hid (∀ wx : World, Calls Try.prog 40 #[.bool false, .int .i64 1] wx fun r w' => r = .returned (.int .i64 0) ∧ wx = w') := fun wx => refIf_any false 1 wx
    have DFi := Lib.hid (fun g wx => DF0 0 g wx hx)
    clear DF0 hF hx h h'
    go_enter Try.func41, Try.ntmps41
    go_wp2_with fail
    obtain ⟨W2, hW2⟩ : ∃ W2, W2 = (w.alloc (.cells #[.bool dn, .string di, .string df] 23)).alloc (.cells #[.bool false, .string ⟨#[]⟩, .string ⟨#[]⟩] 23) := ⟨_, rfl⟩
    obtain ⟨hb2, hz2, CA, CR, FR⟩ : Below w.heap.size w W2 ∧ w.heap.size + 2 ≤ W2.heap.size ∧ Cells3 W2 w.heap.size (.bool dn) (.string di) (.string df) ∧ Cells3 W2 (w.heap.size + 1) (.bool false) (.string ⟨#[]⟩) (.string ⟨#[]⟩) ∧ ∀ i, W2.frozen? ⟨w.heap.size + 1, i, none⟩ = false := by rw [hW2]; exact ⟨below_two w _ _, two_boxes w _ _ _ _ _ _ _⟩
    rw [← hW2]
    clear hW2
    (with_reducible refine (DC.out _).mono ?_)
    rintro e3 W3 ⟨rfl, hb3⟩
    have CR3 := CR.keep hb3 (by omega)
    have FR3 := frozen_keep FR hb3 (by omega)
    have hz3 : w.heap.size + 2 ≤ W3.heap.size := by have := hb3.size; omega
    have B3 := hb2.trans (hb3.mono hb2.size)
    clear hb3 hb2 CA CR FR hz2
    have CR3 := Lib.hid CR3
    have FR3 := Lib.hid FR3
    have B3 := Lib.hid B3
    go_wp2_with fail
    (with_reducible refine (DI.out _).mono ?_)
    rintro e4 W4 ⟨rfl, rfl⟩
    go_wp2_with fail
    (with_reducible refine (DFi.out _ _ ?_).mono ?_)
    · rfl
    rintro e5 W5 ⟨rfl, hb5⟩
    have CR3 := CR3.out.keep hb5 (by omega)
    have FR3 := frozen_keep FR3.out hb5 (by omega)
    have hz3 : w.heap.size + 2 ≤ W5.heap.size := by have := hb5.size; omega
    have B3 := B3.out.trans (hb5.mono B3.out.size)
    clear hb5
    obtain ⟨r0, r1, r2⟩ := CR3
    have z0 := FR3
    obtain ⟨e0, e1, e2⟩ := res_cells r0 r1 r2 (.bool false) (.string ⟨#[]⟩) (.string ⟨#[]⟩)
    have HBl := Lib.hid (res_below B3 (Nat.le_succ _) (.bool false) (.string ⟨#[]⟩) (.string ⟨#[]⟩))
    clear B3
    go_wp2
    exact bodyPost_ret (v := .tuple #[.agg #[.bool false, .string ⟨#[]⟩, .string ⟨#[]⟩], .int .i64 e]) (by simp [results, Try.results41, go_sem, e0, e1, e2]) rfl ⟨rfl, HBl.out⟩
end Go.Proofs.Ytcdmanhhddcmcaa
