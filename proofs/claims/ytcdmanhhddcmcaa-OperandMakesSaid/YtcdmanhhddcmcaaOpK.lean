/- Of of the reference. -/
import Derived.Test.YtcdmanhhddcmcaaOpJ
import Derived.Test.YtcdmanhhddcmcaaDRefErr
import Derived.Test.YtcdmanhhddcmcaaDRefShiftA
import Derived.Test.YtcdmanhhddcmcaaDRefShiftB
namespace Go.Proofs.Ytcdmanhhddcmcaa
open Go.RowKit
attribute [local go_sem ↓] Go.wp_at_zero Go.wp_at_succ

set_option maxHeartbeats 4000000 in
set_option maxRecDepth 100000 in
theorem refOf_err (dn : Bool) (di df : ByteArray) (k c er : Int) (w : World) (HC : ∀ wx : World, Calls Try.prog 39 #[.agg #[.bool dn, .string di, .string df]] wx fun r w' => r = .returned (.int .i64 c) ∧ Below wx.heap.size wx w') (he : er ≠ 0) (hF : firstE c (ifE (decide (k < 0) || decide (40 < k)) 1) = er) :
    Calls Try.prog 14 #[.agg #[.bool dn, .string di, .string df], .int .i64 k] w fun e w' => e = .returned (.tuple #[.agg #[.bool false, .string ⟨#[]⟩, .string ⟨#[]⟩, .string ⟨#[]⟩, .int .i64 0, .int .i64 0, .string ⟨#[]⟩, .string ⟨#[]⟩, .int .i64 0], .int .i64 er]) ∧ Below w.heap.size w w' := by
  have DC := Lib.hid HC
  have qe : (er != 0) = true := by simpa using he
  clear HC he
  have DF0 : ∀ (x : Int) (g : Nat) (wx : World), firstE c x = er → g = wx.heap.size → Calls Try.prog 38 #[.slice (some ⟨g, 0, none⟩) 2 2] (wx.alloc (.cells #[.int .i64 c, .int .i64 x] 26)) fun r w' => r = .returned (.int .i64 er) ∧ Below wx.heap.size wx w' := fun x g wx hx hg => by
    subst hg
    refine (refFirst_two c x wx.heap.size _ _ _ (heap_alloc_new wx _)).mono ?_
    rintro r w' ⟨rfl, rfl⟩
    exact ⟨by rw [hx], (Below.refl _ _).alloc (Nat.le_refl _) _⟩
  rcases (by omega : k < 0 ∨ (¬ k < 0 ∧ 40 < k) ∨ (¬ k < 0 ∧ ¬ 40 < k)) with h | ⟨h, h'⟩ | ⟨h, h'⟩
  · have q0 : decide (k < 0) = true := decide_eq_true h
    have hx : firstE c 1 = er := by rw [← hF, q0]; rfl
    have DI : Hid (∀ wx : World, Calls Try.prog 40 #[.bool true, .int .i64 1] wx fun r w' => r = .returned (.int .i64 1) ∧ wx = w') := fun wx => refIf_any true 1 wx
    have DFi := Lib.hid (fun g wx => DF0 1 g wx hx)
    clear DF0 hF hx h
    go_enter Try.func14, Try.ntmps14
    go_wp2_with fail
    obtain ⟨W2, hW2⟩ : ∃ W2, W2 = (w.alloc (.cells #[.bool dn, .string di, .string df] 23)).alloc (.cells #[.bool false, .string ⟨#[]⟩, .string ⟨#[]⟩, .string ⟨#[]⟩, .int .i64 0, .int .i64 0, .string ⟨#[]⟩, .string ⟨#[]⟩, .int .i64 0] 25) := ⟨_, rfl⟩
    obtain ⟨hb2, hz2, CA, CR, FR⟩ := dec_ops w (dn) di df 23 25
    rw [← hW2] at hb2 hz2 CA CR FR ⊢
    clear hW2
    (with_reducible refine (DC.out _).mono ?_)
    rintro e3 W3 ⟨rfl, hb3⟩
    have CA3 := Lib.hid (CA.keep hb3 (by omega))
    have CR3 := Lib.hid (CR.keep hb3 (by omega))
    have FR3 := Lib.hid (frozen_keep FR hb3 (by omega))
    have hz3 : w.heap.size + 2 ≤ W3.heap.size := by have := hb3.size; omega
    have B3 := Lib.hid (hb2.trans (hb3.mono hb2.size))
    clear hb3 hb2 CA CR FR hz2
    go_wp2_with fail
    (with_reducible refine (DI.out _).mono ?_)
    rintro e4 W4 ⟨rfl, rfl⟩
    go_wp2_with fail
    (with_reducible refine (DFi.out _ _ ?_).mono ?_)
    · rfl
    rintro e5 W5 ⟨rfl, hb5⟩
    have CA5 := CA3.out.keep hb5 (by omega)
    have CR5 := Lib.hid (CR3.out.keep hb5 (by omega))
    have FR5 := Lib.hid (frozen_keep FR3.out hb5 (by omega))
    have hz5 : w.heap.size + 2 ≤ W5.heap.size := by have := hb5.size; omega
    have B5 := Lib.hid (B3.out.trans (hb5.mono B3.out.size))
    clear hb5 CA3 CR3 FR3 B3
    obtain ⟨r0, r1, r2, r3, r4, r5, r6, r7, r8⟩ := CR5.out
    have z0 := FR5.out
    obtain ⟨e0, e1, e2, e3, e4, e5, e6, e7, e8⟩ := res_cells9 CR5.out (.bool false) (.string ⟨#[]⟩) (.string ⟨#[]⟩) (.string ⟨#[]⟩) (.int .i64 0) (.int .i64 0) (.string ⟨#[]⟩) (.string ⟨#[]⟩) (.int .i64 0)
    go_wp2
    exact bodyPost_ret (v := .tuple #[.agg #[.bool false, .string ⟨#[]⟩, .string ⟨#[]⟩, .string ⟨#[]⟩, .int .i64 0, .int .i64 0, .string ⟨#[]⟩, .string ⟨#[]⟩, .int .i64 0], .int .i64 er]) (by simp [results, Try.results14, go_sem, e0, e1, e2, e3, e4, e5, e6, e7, e8]) rfl ⟨rfl, res_below9 B5.out (by omega) _ _ _ _ _ _ _ _ _⟩
  · have q0 : decide (k < 0) = false := decide_eq_false h
    have q1 : decide (40 < k) = true := decide_eq_true h'
    have hx : firstE c 1 = er := by rw [← hF, q0, q1]; rfl
    have DI : Hid (∀ wx : World, Calls Try.prog 40 #[.bool true, .int .i64 1] wx fun r w' => r = .returned (.int .i64 1) ∧ wx = w') := fun wx => refIf_any true 1 wx
    have DFi := Lib.hid (fun g wx => DF0 1 g wx hx)
    clear DF0 hF hx h h'
    go_enter Try.func14, Try.ntmps14
    go_wp2_with fail
    obtain ⟨W2, hW2⟩ : ∃ W2, W2 = (w.alloc (.cells #[.bool dn, .string di, .string df] 23)).alloc (.cells #[.bool false, .string ⟨#[]⟩, .string ⟨#[]⟩, .string ⟨#[]⟩, .int .i64 0, .int .i64 0, .string ⟨#[]⟩, .string ⟨#[]⟩, .int .i64 0] 25) := ⟨_, rfl⟩
    obtain ⟨hb2, hz2, CA, CR, FR⟩ := dec_ops w (dn) di df 23 25
    rw [← hW2] at hb2 hz2 CA CR FR ⊢
    clear hW2
    (with_reducible refine (DC.out _).mono ?_)
    rintro e3 W3 ⟨rfl, hb3⟩
    have CA3 := Lib.hid (CA.keep hb3 (by omega))
    have CR3 := Lib.hid (CR.keep hb3 (by omega))
    have FR3 := Lib.hid (frozen_keep FR hb3 (by omega))
    have hz3 : w.heap.size + 2 ≤ W3.heap.size := by have := hb3.size; omega
    have B3 := Lib.hid (hb2.trans (hb3.mono hb2.size))
    clear hb3 hb2 CA CR FR hz2
    go_wp2_with fail
    (with_reducible refine (DI.out _).mono ?_)
    rintro e4 W4 ⟨rfl, rfl⟩
    go_wp2_with fail
    (with_reducible refine (DFi.out _ _ ?_).mono ?_)
    · rfl
    rintro e5 W5 ⟨rfl, hb5⟩
    have CA5 := CA3.out.keep hb5 (by omega)
    have CR5 := Lib.hid (CR3.out.keep hb5 (by omega))
    have FR5 := Lib.hid (frozen_keep FR3.out hb5 (by omega))
    have hz5 : w.heap.size + 2 ≤ W5.heap.size := by have := hb5.size; omega
    have B5 := Lib.hid (B3.out.trans (hb5.mono B3.out.size))
    clear hb5 CA3 CR3 FR3 B3
    obtain ⟨r0, r1, r2, r3, r4, r5, r6, r7, r8⟩ := CR5.out
    have z0 := FR5.out
    obtain ⟨e0, e1, e2, e3, e4, e5, e6, e7, e8⟩ := res_cells9 CR5.out (.bool false) (.string ⟨#[]⟩) (.string ⟨#[]⟩) (.string ⟨#[]⟩) (.int .i64 0) (.int .i64 0) (.string ⟨#[]⟩) (.string ⟨#[]⟩) (.int .i64 0)
    go_wp2
    exact bodyPost_ret (v := .tuple #[.agg #[.bool false, .string ⟨#[]⟩, .string ⟨#[]⟩, .string ⟨#[]⟩, .int .i64 0, .int .i64 0, .string ⟨#[]⟩, .string ⟨#[]⟩, .int .i64 0], .int .i64 er]) (by simp [results, Try.results14, go_sem, e0, e1, e2, e3, e4, e5, e6, e7, e8]) rfl ⟨rfl, res_below9 B5.out (by omega) _ _ _ _ _ _ _ _ _⟩
  · have q0 : decide (k < 0) = false := decide_eq_false h
    have q1 : decide (40 < k) = false := decide_eq_false h'
    have hx : firstE c 0 = er := by rw [← hF, q0, q1]; rfl
    have DI : Hid (∀ wx : World, Calls Try.prog 40 #[.bool false, .int .i64 1] wx fun r w' => r = .returned (.int .i64 0) ∧ wx = w') := fun wx => refIf_any false 1 wx
    have DFi := Lib.hid (fun g wx => DF0 0 g wx hx)
    clear DF0 hF hx h h'
    go_enter Try.func14, Try.ntmps14
    go_wp2_with fail
    obtain ⟨W2, hW2⟩ : ∃ W2, W2 = (w.alloc (.cells #[.bool dn, .string di, .string df] 23)).alloc (.cells #[.bool false, .string ⟨#[]⟩, .string ⟨#[]⟩, .string ⟨#[]⟩, .int .i64 0, .int .i64 0, .string ⟨#[]⟩, .string ⟨#[]⟩, .int .i64 0] 25) := ⟨_, rfl⟩
    obtain ⟨hb2, hz2, CA, CR, FR⟩ := dec_ops w (dn) di df 23 25
    rw [← hW2] at hb2 hz2 CA CR FR ⊢
    clear hW2
    (with_reducible refine (DC.out _).mono ?_)
    rintro e3 W3 ⟨rfl, hb3⟩
    have CA3 := Lib.hid (CA.keep hb3 (by omega))
    have CR3 := Lib.hid (CR.keep hb3 (by omega))
    have FR3 := Lib.hid (frozen_keep FR hb3 (by omega))
    have hz3 : w.heap.size + 2 ≤ W3.heap.size := by have := hb3.size; omega
    have B3 := Lib.hid (hb2.trans (hb3.mono hb2.size))
    clear hb3 hb2 CA CR FR hz2
    go_wp2_with fail
    (with_reducible refine (DI.out _).mono ?_)
    rintro e4 W4 ⟨rfl, rfl⟩
    go_wp2_with fail
    (with_reducible refine (DFi.out _ _ ?_).mono ?_)
    · rfl
    rintro e5 W5 ⟨rfl, hb5⟩
    have CA5 := CA3.out.keep hb5 (by omega)
    have CR5 := Lib.hid (CR3.out.keep hb5 (by omega))
    have FR5 := Lib.hid (frozen_keep FR3.out hb5 (by omega))
    have hz5 : w.heap.size + 2 ≤ W5.heap.size := by have := hb5.size; omega
    have B5 := Lib.hid (B3.out.trans (hb5.mono B3.out.size))
    clear hb5 CA3 CR3 FR3 B3
    obtain ⟨r0, r1, r2, r3, r4, r5, r6, r7, r8⟩ := CR5.out
    have z0 := FR5.out
    obtain ⟨e0, e1, e2, e3, e4, e5, e6, e7, e8⟩ := res_cells9 CR5.out (.bool false) (.string ⟨#[]⟩) (.string ⟨#[]⟩) (.string ⟨#[]⟩) (.int .i64 0) (.int .i64 0) (.string ⟨#[]⟩) (.string ⟨#[]⟩) (.int .i64 0)
    go_wp2
    exact bodyPost_ret (v := .tuple #[.agg #[.bool false, .string ⟨#[]⟩, .string ⟨#[]⟩, .string ⟨#[]⟩, .int .i64 0, .int .i64 0, .string ⟨#[]⟩, .string ⟨#[]⟩, .int .i64 0], .int .i64 er]) (by simp [results, Try.results14, go_sem, e0, e1, e2, e3, e4, e5, e6, e7, e8]) rfl ⟨rfl, res_below9 B5.out (by omega) _ _ _ _ _ _ _ _ _⟩

set_option maxHeartbeats 4000000 in
set_option maxRecDepth 100000 in
theorem refOf_none (d : Dc) (k : Int) (w : World) (hd : d.Ok) (hk1 : 0 ≤ k) (hk2 : k ≤ 40) (ho : shD d k = none) :
    Calls Try.prog 14 #[.agg #[.bool d.neg, .string (dStr d.i), .string (dStr d.f)], .int .i64 k] w fun e w' => e = .returned (.tuple #[.agg #[.bool false, .string ⟨#[]⟩, .string ⟨#[]⟩, .string ⟨#[]⟩, .int .i64 0, .int .i64 0, .string ⟨#[]⟩, .string ⟨#[]⟩, .int .i64 0], .int .i64 3]) ∧ Below w.heap.size w w' := by
  have DC := Lib.hid (fun wx => refCheck_ok d wx hd)
  have DI : Hid (∀ wx : World, Calls Try.prog 40 #[.bool false, .int .i64 1] wx fun r w' => r = .returned (.int .i64 0) ∧ wx = w') := fun wx => refIf_any false 1 wx
  have DFi : Hid (∀ (g : Nat) (wx : World), g = wx.heap.size → Calls Try.prog 38 #[.slice (some ⟨g, 0, none⟩) 2 2] (wx.alloc (.cells #[.int .i64 0, .int .i64 0] 26)) fun r w' => r = .returned (.int .i64 0) ∧ Below wx.heap.size wx w') := fun g wx hg => by
    subst hg
    refine (refFirst_two 0 0 wx.heap.size _ _ _ (heap_alloc_new wx _)).mono ?_
    rintro e w' ⟨rfl, rfl⟩
    exact ⟨rfl, (Below.refl _ _).alloc (Nat.le_refl _) _⟩
  have q0 : decide (k < 0) = false := decide_eq_false (by omega)
  have q1 : decide (40 < k) = false := decide_eq_false (by omega)
  have DS : Hid (∀ wx : World, Calls Try.prog 41 #[.agg #[.bool d.neg, .string (dStr d.i), .string (dStr d.f)], .int .i64 k] wx fun e w' => e = .returned (.tuple #[.agg #[.bool false, .string ⟨#[]⟩, .string ⟨#[]⟩], .int .i64 3]) ∧ Below wx.heap.size wx w') := fun wx => by
    by_cases hc : (d.f.length : Int) < k
    · exact refShift_gt d k wx _ ho hd (by omega) hk2 hc
    · exact refShift_le d k wx _ ho hd (by omega) hk2 hc
  clear hd ho
  go_enter Try.func14, Try.ntmps14
  go_wp2_with fail
  obtain ⟨W2, hW2⟩ : ∃ W2, W2 = (w.alloc (.cells #[.bool d.neg, .string (dStr d.i), .string (dStr d.f)] 23)).alloc (.cells #[.bool false, .string ⟨#[]⟩, .string ⟨#[]⟩, .string ⟨#[]⟩, .int .i64 0, .int .i64 0, .string ⟨#[]⟩, .string ⟨#[]⟩, .int .i64 0] 25) := ⟨_, rfl⟩
  obtain ⟨hb2, hz2, CA, CR, FR⟩ := dec_ops w (d.neg) (dStr d.i) (dStr d.f) 23 25
  rw [← hW2] at hb2 hz2 CA CR FR ⊢
  clear hW2
  (with_reducible refine (DC.out _).mono ?_)
  rintro e3 W3 ⟨rfl, hb3⟩
  have CA3 := Lib.hid (CA.keep hb3 (by omega))
  have CR3 := Lib.hid (CR.keep hb3 (by omega))
  have FR3 := Lib.hid (frozen_keep FR hb3 (by omega))
  have hz3 : w.heap.size + 2 ≤ W3.heap.size := by have := hb3.size; omega
  have B3 := Lib.hid (hb2.trans (hb3.mono hb2.size))
  clear hb3 hb2 CA CR FR hz2
  go_wp2_with fail
  (with_reducible refine (DI.out _).mono ?_)
  rintro e4 W4 ⟨rfl, rfl⟩
  go_wp2_with fail
  (with_reducible refine (DFi.out _ _ ?_).mono ?_)
  · rfl
  rintro e5 W5 ⟨rfl, hb5⟩
  have CA5 := CA3.out.keep hb5 (by omega)
  have CR5 := Lib.hid (CR3.out.keep hb5 (by omega))
  have FR5 := Lib.hid (frozen_keep FR3.out hb5 (by omega))
  have hz5 : w.heap.size + 2 ≤ W5.heap.size := by have := hb5.size; omega
  have B5 := Lib.hid (B3.out.trans (hb5.mono B3.out.size))
  clear hb5 CA3 CR3 FR3 B3
  obtain ⟨a0, a1, a2⟩ := CA5
  go_wp2_with fail
  (with_reducible refine (DS.out _).mono ?_)
  rintro e6 W6 ⟨rfl, hb6⟩
  have CR6 := Lib.hid (CR5.out.keep hb6 (by omega))
  have FR6 := Lib.hid (frozen_keep FR5.out hb6 (by omega))
  have hz6 : w.heap.size + 2 ≤ W6.heap.size := by have := hb6.size; omega
  have B6 := Lib.hid (B5.out.trans (hb6.mono B5.out.size))
  clear hb6 CR5 FR5 B5 a0 a1 a2
  have ba : Below W6.heap.size W6 (W6.alloc (.cells #[.bool false, .string ⟨#[]⟩, .string ⟨#[]⟩] 23)) := (Below.refl _ _).alloc (Nat.le_refl _) _
  have CR7 := Lib.hid (CR6.out.keep ba (by omega))
  have FR7 := Lib.hid (frozen_keep FR6.out ba (by omega))
  have B7 := Lib.hid (B6.out.trans (ba.mono B6.out.size))
  clear ba
  obtain ⟨r0, r1, r2, r3, r4, r5, r6, r7, r8⟩ := CR7.out
  have z0 := FR7.out
  obtain ⟨e0, e1, e2, e3, e4, e5, e6, e7, e8⟩ := res_cells9 CR7.out (.bool false) (.string ⟨#[]⟩) (.string ⟨#[]⟩) (.string ⟨#[]⟩) (.int .i64 0) (.int .i64 0) (.string ⟨#[]⟩) (.string ⟨#[]⟩) (.int .i64 0)
  go_wp2
  exact bodyPost_ret (v := .tuple #[.agg #[.bool false, .string ⟨#[]⟩, .string ⟨#[]⟩, .string ⟨#[]⟩, .int .i64 0, .int .i64 0, .string ⟨#[]⟩, .string ⟨#[]⟩, .int .i64 0], .int .i64 3]) (by simp [results, Try.results14, go_sem, e0, e1, e2, e3, e4, e5, e6, e7, e8]) rfl ⟨rfl, res_below9 B7.out (by omega) _ _ _ _ _ _ _ _ _⟩

set_option maxHeartbeats 4000000 in
set_option maxRecDepth 100000 in
theorem refOf_ok (d x t : Dc) (k : Int) (w : World) (hd : d.Ok) (hx : x.Ok) (hk1 : 0 ≤ k) (hk2 : k ≤ 40) (ho : shD d k = some x) (ht : trimD ⟨false, x.i, x.f⟩ = t) :
    Calls Try.prog 14 #[.agg #[.bool d.neg, .string (dStr d.i), .string (dStr d.f)], .int .i64 k] w fun e w' => e = .returned (.tuple #[.agg #[.bool false, .string (dStr t.i), .string (dStr t.f), .string (dStr x.i), .int .i64 x.f.length, .int .i64 t.f.length, .string (dStr (intg x.f)), .string (dStr (intg t.f)), .int .i64 k], .int .i64 0]) ∧ Below w.heap.size w w' := by
  have DC := Lib.hid (fun wx => refCheck_ok d wx hd)
  have DI : Hid (∀ wx : World, Calls Try.prog 40 #[.bool false, .int .i64 1] wx fun r w' => r = .returned (.int .i64 0) ∧ wx = w') := fun wx => refIf_any false 1 wx
  have DFi : Hid (∀ (g : Nat) (wx : World), g = wx.heap.size → Calls Try.prog 38 #[.slice (some ⟨g, 0, none⟩) 2 2] (wx.alloc (.cells #[.int .i64 0, .int .i64 0] 26)) fun r w' => r = .returned (.int .i64 0) ∧ Below wx.heap.size wx w') := fun g wx hg => by
    subst hg
    refine (refFirst_two 0 0 wx.heap.size _ _ _ (heap_alloc_new wx _)).mono ?_
    rintro e w' ⟨rfl, rfl⟩
    exact ⟨rfl, (Below.refl _ _).alloc (Nat.le_refl _) _⟩
  have q0 : decide (k < 0) = false := decide_eq_false (by omega)
  have q1 : decide (40 < k) = false := decide_eq_false (by omega)
  have DS : Hid (∀ wx : World, Calls Try.prog 41 #[.agg #[.bool d.neg, .string (dStr d.i), .string (dStr d.f)], .int .i64 k] wx fun e w' => e = .returned (.tuple #[.agg #[.bool x.neg, .string (dStr x.i), .string (dStr x.f)], .int .i64 0]) ∧ Below wx.heap.size wx w') := fun wx => by
    by_cases hc : (d.f.length : Int) < k
    · exact refShift_gt d k wx _ ho hd (by omega) hk2 hc
    · exact refShift_le d k wx _ ho hd (by omega) hk2 hc
  have DO := Lib.hid (fun wx => refShown_any x t k wx ht hx)
  clear hd ho hx ht
  go_enter Try.func14, Try.ntmps14
  go_wp2_with fail
  obtain ⟨W2, hW2⟩ : ∃ W2, W2 = (w.alloc (.cells #[.bool d.neg, .string (dStr d.i), .string (dStr d.f)] 23)).alloc (.cells #[.bool false, .string ⟨#[]⟩, .string ⟨#[]⟩, .string ⟨#[]⟩, .int .i64 0, .int .i64 0, .string ⟨#[]⟩, .string ⟨#[]⟩, .int .i64 0] 25) := ⟨_, rfl⟩
  obtain ⟨hb2, hz2, CA, CR, FR⟩ := dec_ops w (d.neg) (dStr d.i) (dStr d.f) 23 25
  rw [← hW2] at hb2 hz2 CA CR FR ⊢
  clear hW2
  (with_reducible refine (DC.out _).mono ?_)
  rintro e3 W3 ⟨rfl, hb3⟩
  have CA3 := Lib.hid (CA.keep hb3 (by omega))
  have CR3 := Lib.hid (CR.keep hb3 (by omega))
  have FR3 := Lib.hid (frozen_keep FR hb3 (by omega))
  have hz3 : w.heap.size + 2 ≤ W3.heap.size := by have := hb3.size; omega
  have B3 := Lib.hid (hb2.trans (hb3.mono hb2.size))
  clear hb3 hb2 CA CR FR hz2
  go_wp2_with fail
  (with_reducible refine (DI.out _).mono ?_)
  rintro e4 W4 ⟨rfl, rfl⟩
  go_wp2_with fail
  (with_reducible refine (DFi.out _ _ ?_).mono ?_)
  · rfl
  rintro e5 W5 ⟨rfl, hb5⟩
  have CA5 := CA3.out.keep hb5 (by omega)
  have CR5 := Lib.hid (CR3.out.keep hb5 (by omega))
  have FR5 := Lib.hid (frozen_keep FR3.out hb5 (by omega))
  have hz5 : w.heap.size + 2 ≤ W5.heap.size := by have := hb5.size; omega
  have B5 := Lib.hid (B3.out.trans (hb5.mono B3.out.size))
  clear hb5 CA3 CR3 FR3 B3
  obtain ⟨a0, a1, a2⟩ := CA5
  go_wp2_with fail
  (with_reducible refine (DS.out _).mono ?_)
  rintro e6 W6 ⟨rfl, hb6⟩
  have CR6 := Lib.hid (CR5.out.keep hb6 (by omega))
  have FR6 := Lib.hid (frozen_keep FR5.out hb6 (by omega))
  have hz6 : w.heap.size + 2 ≤ W6.heap.size := by have := hb6.size; omega
  have B6 := Lib.hid (B5.out.trans (hb6.mono B5.out.size))
  clear hb6 CR5 FR5 B5 a0 a1 a2
  obtain ⟨W7, hW7⟩ : ∃ W7, W7 = W6.alloc (.cells #[.bool false, .string (dStr x.i), .string (dStr x.f)] 23) := ⟨_, rfl⟩
  have ba : Below W6.heap.size W6 W7 := by rw [hW7]; exact (Below.refl _ _).alloc (Nat.le_refl _) _
  have KR7 := Lib.hid (CR6.out.keep ba (by omega))
  have KF7 := Lib.hid (frozen_keep FR6.out ba (by omega))
  have KB7 := Lib.hid (B6.out.trans (ba.mono B6.out.size))
  have hz7 : w.heap.size + 2 ≤ W7.heap.size := by have := ba.size; omega
  have HW7 := Lib.hid hW7
  clear hW7 ba CR6 FR6 B6
  go_wp2_with fail
  rw [← HW7.out]
  (with_reducible refine (DO.out _).mono ?_)
  rintro e8 W8 ⟨rfl, hb8⟩
  have CR8 := Lib.hid (KR7.out.keep hb8 (by omega))
  have FR8 := Lib.hid (frozen_keep KF7.out hb8 (by omega))
  have B8 := Lib.hid (KB7.out.trans (hb8.mono KB7.out.size))
  clear hb8 KR7 KF7 KB7 hz7 HW7
  obtain ⟨r0, r1, r2, r3, r4, r5, r6, r7, r8⟩ := CR8.out
  have z0 := FR8.out
  obtain ⟨e0, e1, e2, e3, e4, e5, e6, e7, e8⟩ := res_cells9 CR8.out (.bool false) (.string (dStr t.i)) (.string (dStr t.f)) (.string (dStr x.i)) (.int .i64 x.f.length) (.int .i64 t.f.length) (.string (dStr (intg x.f))) (.string (dStr (intg t.f))) (.int .i64 k)
  go_wp2
  exact bodyPost_ret (v := .tuple #[.agg #[.bool false, .string (dStr t.i), .string (dStr t.f), .string (dStr x.i), .int .i64 x.f.length, .int .i64 t.f.length, .string (dStr (intg x.f)), .string (dStr (intg t.f)), .int .i64 k], .int .i64 0]) (by simp [results, Try.results14, go_sem, e0, e1, e2, e3, e4, e5, e6, e7, e8]) rfl ⟨rfl, res_below9 B8.out (by omega) _ _ _ _ _ _ _ _ _⟩

end Go.Proofs.Ytcdmanhhddcmcaa
