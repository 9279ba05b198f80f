/- Of of the program. -/
import Derived.Test.YtmggdnnffdaffaaDoorOpB
namespace Go.Proofs.YtmggdnnffdaffaaDoor
open Go.RowKit
attribute [local go_sem ↓] Go.wp_at_zero Go.wp_at_succ

/-- A decimal's box and, behind it, one of operands. -/
theorem dec_ops (w : World) (n : Bool) (i f : ByteArray) (t u : TypeId) :
    Below w.heap.size w ((w.alloc (.cells #[.bool n, .string i, .string f] t)).alloc (.cells #[.bool false, .string ⟨#[]⟩, .string ⟨#[]⟩, .string ⟨#[]⟩, .int .i64 0, .int .i64 0, .string ⟨#[]⟩, .string ⟨#[]⟩, .int .i64 0] u)) ∧ w.heap.size + 2 ≤ ((w.alloc (.cells #[.bool n, .string i, .string f] t)).alloc (.cells #[.bool false, .string ⟨#[]⟩, .string ⟨#[]⟩, .string ⟨#[]⟩, .int .i64 0, .int .i64 0, .string ⟨#[]⟩, .string ⟨#[]⟩, .int .i64 0] u)).heap.size ∧ Cells3 ((w.alloc (.cells #[.bool n, .string i, .string f] t)).alloc (.cells #[.bool false, .string ⟨#[]⟩, .string ⟨#[]⟩, .string ⟨#[]⟩, .int .i64 0, .int .i64 0, .string ⟨#[]⟩, .string ⟨#[]⟩, .int .i64 0] u)) w.heap.size (.bool n) (.string i) (.string f) ∧ Cells9 ((w.alloc (.cells #[.bool n, .string i, .string f] t)).alloc (.cells #[.bool false, .string ⟨#[]⟩, .string ⟨#[]⟩, .string ⟨#[]⟩, .int .i64 0, .int .i64 0, .string ⟨#[]⟩, .string ⟨#[]⟩, .int .i64 0] u)) (w.heap.size + 1) (.bool false) (.string ⟨#[]⟩) (.string ⟨#[]⟩) (.string ⟨#[]⟩) (.int .i64 0) (.int .i64 0) (.string ⟨#[]⟩) (.string ⟨#[]⟩) (.int .i64 0) ∧ ∀ j, ((w.alloc (.cells #[.bool n, .string i, .string f] t)).alloc (.cells #[.bool false, .string ⟨#[]⟩, .string ⟨#[]⟩, .string ⟨#[]⟩, .int .i64 0, .int .i64 0, .string ⟨#[]⟩, .string ⟨#[]⟩, .int .i64 0] u)).frozen? ⟨w.heap.size + 1, j, none⟩ = false := by
  obtain ⟨s1, c1, f1⟩ := one_box w (.bool n) (.string i) (.string f) t
  obtain ⟨s2, c2, f2⟩ := nine_box (w.alloc (.cells #[.bool n, .string i, .string f] t)) (.bool false) (.string ⟨#[]⟩) (.string ⟨#[]⟩) (.string ⟨#[]⟩) (.int .i64 0) (.int .i64 0) (.string ⟨#[]⟩) (.string ⟨#[]⟩) (.int .i64 0) u
  have hs : (w.alloc (.cells #[.bool n, .string i, .string f] t)).heap.size = w.heap.size + 1 := by simp
  rw [hs] at c2 f2 s2
  exact ⟨below_two w _ _, s2, c1.keep ((Below.refl _ _).alloc (Nat.le_refl _) _) (by omega), c2, f2⟩

set_option maxHeartbeats 2000000 in
set_option maxRecDepth 100000 in
theorem of_bad (n : Bool) (i f : ByteArray) (k : Int) (w : World) (h1 : i.size ≤ 140737488355328) (h2 : f.size ≤ 140737488355328) (h : okB n i f = false) :
    Calls Tryd.prog 7 #[.agg #[.bool n, .string i, .string f], .int .i64 k] w fun e w' => e = .returned (.tuple #[.agg #[.bool false, .string ⟨#[]⟩, .string ⟨#[]⟩, .string ⟨#[]⟩, .int .i64 0, .int .i64 0, .string ⟨#[]⟩, .string ⟨#[]⟩, .int .i64 0], .int .i64 20]) ∧ Below w.heap.size w w' := by
  have DC := Lib.hid (fun wx => check_any n i f wx h1 h2)
  have q := ck_bad h
  clear h
  go_enter Tryd.func7, Tryd.ntmps7
  go_wp2_with fail
  obtain ⟨W2, hW2⟩ : ∃ W2, W2 = (w.alloc (.cells #[.bool n, .string i, .string f] 27)).alloc (.cells #[.bool false, .string ⟨#[]⟩, .string ⟨#[]⟩, .string ⟨#[]⟩, .int .i64 0, .int .i64 0, .string ⟨#[]⟩, .string ⟨#[]⟩, .int .i64 0] 30) := ⟨_, rfl⟩
  obtain ⟨hb2, hz2, CA, CR, FR⟩ := dec_ops w (n) i f 27 30
  rw [← hW2] at hb2 hz2 CA CR FR ⊢
  clear hW2
  (with_reducible refine (DC.out _).mono ?_)
  rintro e W3 ⟨rfl, hb3⟩
  obtain ⟨r0, r1, r2, r3, r4, r5, r6, r7, r8⟩ := CR.keep hb3 (by omega)
  have z0 := frozen_keep FR hb3 (by omega)
  have B3 := Lib.hid (hb2.trans (hb3.mono hb2.size))
  have CR3 := Lib.hid (CR.keep hb3 (by omega))
  clear hb3 hb2 CA CR FR
  obtain ⟨e0, e1, e2, e3, e4, e5, e6, e7, e8⟩ := res_cells9 CR3.out (.bool false) (.string ⟨#[]⟩) (.string ⟨#[]⟩) (.string ⟨#[]⟩) (.int .i64 0) (.int .i64 0) (.string ⟨#[]⟩) (.string ⟨#[]⟩) (.int .i64 0)
  go_wp2
  exact bodyPost_ret (v := .tuple #[.agg #[.bool false, .string ⟨#[]⟩, .string ⟨#[]⟩, .string ⟨#[]⟩, .int .i64 0, .int .i64 0, .string ⟨#[]⟩, .string ⟨#[]⟩, .int .i64 0], .int .i64 20]) (by simp [results, Tryd.results7, go_sem, e0, e1, e2, e3, e4, e5, e6, e7, e8]) rfl ⟨rfl, res_below9 B3.out (by omega) _ _ _ _ _ _ _ _ _⟩

set_option maxHeartbeats 2000000 in
set_option maxRecDepth 100000 in
theorem of_arg (d : Dc) (k : Int) (w : World) (hd : d.Ok) (hk : ¬ (0 ≤ k ∧ k ≤ 40)) :
    Calls Tryd.prog 7 #[.agg #[.bool d.neg, .string (dStr d.i), .string (dStr d.f)], .int .i64 k] w fun e w' => e = .returned (.tuple #[.agg #[.bool false, .string ⟨#[]⟩, .string ⟨#[]⟩, .string ⟨#[]⟩, .int .i64 0, .int .i64 0, .string ⟨#[]⟩, .string ⟨#[]⟩, .int .i64 0], .int .i64 1]) ∧ Below w.heap.size w w' := by
  have DC : Hid (∀ wx : World, Calls Tryd.prog 16 #[.agg #[.bool d.neg, .string (dStr d.i), .string (dStr d.f)]] wx fun e w' => e = .returned (.int .i64 0) ∧ Below wx.heap.size wx w') := fun wx => by
    have := check_any d.neg (dStr d.i) (dStr d.f) wx (by rw [dStr_size]; have := hd.most; omega) (by rw [dStr_size]; have := hd.most; omega)
    rw [ck_ok hd] at this
    exact this
  have DE : Hid (∀ wx : World, Calls Tryd.prog 17 #[.int .i64 k] wx fun e w' => e = .returned (.bool false) ∧ wx = w') := fun wx => by
    have := isExp_any k wx
    rw [decide_eq_false hk] at this
    exact this
  clear hd
  go_enter Tryd.func7, Tryd.ntmps7
  go_wp2_with fail
  obtain ⟨W2, hW2⟩ : ∃ W2, W2 = (w.alloc (.cells #[.bool d.neg, .string (dStr d.i), .string (dStr d.f)] 27)).alloc (.cells #[.bool false, .string ⟨#[]⟩, .string ⟨#[]⟩, .string ⟨#[]⟩, .int .i64 0, .int .i64 0, .string ⟨#[]⟩, .string ⟨#[]⟩, .int .i64 0] 30) := ⟨_, rfl⟩
  obtain ⟨hb2, hz2, CA, CR, FR⟩ := dec_ops w (d.neg) (dStr d.i) (dStr d.f) 27 30
  rw [← hW2] at hb2 hz2 CA CR FR ⊢
  clear hW2
  (with_reducible refine (DC.out _).mono ?_)
  rintro e W3 ⟨rfl, hb3⟩
  have CA3 := CA.keep hb3 (by omega)
  have CR3 := Lib.hid (CR.keep hb3 (by omega))
  have FR3 := Lib.hid (frozen_keep FR hb3 (by omega))
  have hz3 : w.heap.size + 2 ≤ W3.heap.size := by have := hb3.size; omega
  have B3 := Lib.hid (hb2.trans (hb3.mono hb2.size))
  clear hb3 hb2 CA CR FR hz2
  go_wp2_with fail
  (with_reducible refine (DE.out _).mono ?_)
  rintro e W4 ⟨rfl, rfl⟩
  obtain ⟨r0, r1, r2, r3, r4, r5, r6, r7, r8⟩ := CR3.out
  have z0 := FR3.out
  obtain ⟨e0, e1, e2, e3, e4, e5, e6, e7, e8⟩ := res_cells9 CR3.out (.bool false) (.string ⟨#[]⟩) (.string ⟨#[]⟩) (.string ⟨#[]⟩) (.int .i64 0) (.int .i64 0) (.string ⟨#[]⟩) (.string ⟨#[]⟩) (.int .i64 0)
  go_wp2
  exact bodyPost_ret (v := .tuple #[.agg #[.bool false, .string ⟨#[]⟩, .string ⟨#[]⟩, .string ⟨#[]⟩, .int .i64 0, .int .i64 0, .string ⟨#[]⟩, .string ⟨#[]⟩, .int .i64 0], .int .i64 1]) (by simp [results, Tryd.results7, go_sem, e0, e1, e2, e3, e4, e5, e6, e7, e8]) rfl ⟨rfl, res_below9 B3.out (by omega) _ _ _ _ _ _ _ _ _⟩

set_option maxHeartbeats 2000000 in
set_option maxRecDepth 100000 in
theorem of_none (d : Dc) (k : Int) (w : World) (hd : d.Ok) (hk1 : 0 ≤ k) (hk2 : k ≤ 40) (ho : shD d k = none) :
    Calls Tryd.prog 7 #[.agg #[.bool d.neg, .string (dStr d.i), .string (dStr d.f)], .int .i64 k] w fun e w' => e = .returned (.tuple #[.agg #[.bool false, .string ⟨#[]⟩, .string ⟨#[]⟩, .string ⟨#[]⟩, .int .i64 0, .int .i64 0, .string ⟨#[]⟩, .string ⟨#[]⟩, .int .i64 0], .int .i64 3]) ∧ Below w.heap.size w w' := by
  have DC : Hid (∀ wx : World, Calls Tryd.prog 16 #[.agg #[.bool d.neg, .string (dStr d.i), .string (dStr d.f)]] wx fun e w' => e = .returned (.int .i64 0) ∧ Below wx.heap.size wx w') := fun wx => by
    have := check_any d.neg (dStr d.i) (dStr d.f) wx (by rw [dStr_size]; have := hd.most; omega) (by rw [dStr_size]; have := hd.most; omega)
    rw [ck_ok hd] at this
    exact this
  have DE : Hid (∀ wx : World, Calls Tryd.prog 17 #[.int .i64 k] wx fun e w' => e = .returned (.bool true) ∧ wx = w') := fun wx => by
    have := isExp_any k wx
    rw [decide_eq_true ⟨hk1, hk2⟩] at this
    exact this
  have DS : Hid (∀ wx : World, Calls Tryd.prog 18 #[.agg #[.bool d.neg, .string (dStr d.i), .string (dStr d.f)], .int .i64 k] wx fun e w' => e = .returned (.tuple #[.agg #[.bool false, .string ⟨#[]⟩, .string ⟨#[]⟩], .int .i64 3]) ∧ Below wx.heap.size wx w') := fun wx => shift_ok d k wx none ho hd (by omega) hk2
  clear hd ho
  go_enter Tryd.func7, Tryd.ntmps7
  go_wp2_with fail
  obtain ⟨W2, hW2⟩ : ∃ W2, W2 = (w.alloc (.cells #[.bool d.neg, .string (dStr d.i), .string (dStr d.f)] 27)).alloc (.cells #[.bool false, .string ⟨#[]⟩, .string ⟨#[]⟩, .string ⟨#[]⟩, .int .i64 0, .int .i64 0, .string ⟨#[]⟩, .string ⟨#[]⟩, .int .i64 0] 30) := ⟨_, rfl⟩
  obtain ⟨hb2, hz2, CA, CR, FR⟩ := dec_ops w (d.neg) (dStr d.i) (dStr d.f) 27 30
  rw [← hW2] at hb2 hz2 CA CR FR ⊢
  clear hW2
  (with_reducible refine (DC.out _).mono ?_)
  rintro e W3 ⟨rfl, hb3⟩
  have CA3 := CA.keep hb3 (by omega)
  have CR3 := Lib.hid (CR.keep hb3 (by omega))
  have FR3 := Lib.hid (frozen_keep FR hb3 (by omega))
  have hz3 : w.heap.size + 2 ≤ W3.heap.size := by have := hb3.size; omega
  have B3 := Lib.hid (hb2.trans (hb3.mono hb2.size))
  clear hb3 hb2 CA CR FR hz2
  go_wp2_with fail
  (with_reducible refine (DE.out _).mono ?_)
  rintro e W4 ⟨rfl, rfl⟩
  have a0 := CA3.1
  have a1 := CA3.2.1
  have a2 := CA3.2.2
  go_wp2_with fail
  (with_reducible refine (DS.out _).mono ?_)
  rintro e W5 ⟨rfl, hb5⟩
  have CR5 := Lib.hid (CR3.out.keep hb5 (by omega))
  have FR5 := Lib.hid (frozen_keep FR3.out hb5 (by omega))
  have hz5 : w.heap.size + 2 ≤ W5.heap.size := by have := hb5.size; omega
  have B5 := Lib.hid (B3.out.trans (hb5.mono B3.out.size))
  clear hb5 CR3 FR3 hz3 B3 CA3 a0 a1 a2
  have ba : Below W5.heap.size W5 (W5.alloc (.cells #[.bool false, .string ⟨#[]⟩, .string ⟨#[]⟩] 27)) := (Below.refl _ _).alloc (Nat.le_refl _) _
  obtain ⟨r0, r1, r2, r3, r4, r5, r6, r7, r8⟩ := CR5.out.keep ba (by omega)
  have z0 := frozen_keep FR5.out ba (by omega)
  have CR6 := Lib.hid (CR5.out.keep ba (by omega))
  have B6 := Lib.hid (B5.out.trans (ba.mono B5.out.size))
  clear ba
  obtain ⟨e0, e1, e2, e3, e4, e5, e6, e7, e8⟩ := res_cells9 CR6.out (.bool false) (.string ⟨#[]⟩) (.string ⟨#[]⟩) (.string ⟨#[]⟩) (.int .i64 0) (.int .i64 0) (.string ⟨#[]⟩) (.string ⟨#[]⟩) (.int .i64 0)
  go_wp2
  exact bodyPost_ret (v := .tuple #[.agg #[.bool false, .string ⟨#[]⟩, .string ⟨#[]⟩, .string ⟨#[]⟩, .int .i64 0, .int .i64 0, .string ⟨#[]⟩, .string ⟨#[]⟩, .int .i64 0], .int .i64 3]) (by simp [results, Tryd.results7, go_sem, e0, e1, e2, e3, e4, e5, e6, e7, e8]) rfl ⟨rfl, res_below9 B6.out (by omega) _ _ _ _ _ _ _ _ _⟩

set_option maxHeartbeats 4000000 in
set_option maxRecDepth 100000 in
theorem of_ok (d x t : Dc) (k : Int) (w : World) (hd : d.Ok) (hx : x.Ok) (hk1 : 0 ≤ k) (hk2 : k ≤ 40) (ho : shD d k = some x) (ht : trimD ⟨false, x.i, x.f⟩ = t) :
    Calls Tryd.prog 7 #[.agg #[.bool d.neg, .string (dStr d.i), .string (dStr d.f)], .int .i64 k] w fun e w' => e = .returned (.tuple #[.agg #[.bool false, .string (dStr t.i), .string (dStr t.f), .string (dStr x.i), .int .i64 x.f.length, .int .i64 t.f.length, .string (dStr (intg x.f)), .string (dStr (intg t.f)), .int .i64 k], .int .i64 0]) ∧ Below w.heap.size w w' := by
  have DC : Hid (∀ wx : World, Calls Tryd.prog 16 #[.agg #[.bool d.neg, .string (dStr d.i), .string (dStr d.f)]] wx fun e w' => e = .returned (.int .i64 0) ∧ Below wx.heap.size wx w') := fun wx => by
    have := check_any d.neg (dStr d.i) (dStr d.f) wx (by rw [dStr_size]; have := hd.most; omega) (by rw [dStr_size]; have := hd.most; omega)
    rw [ck_ok hd] at this
    exact this
  have DE : Hid (∀ wx : World, Calls Tryd.prog 17 #[.int .i64 k] wx fun e w' => e = .returned (.bool true) ∧ wx = w') := fun wx => by
    have := isExp_any k wx
    rw [decide_eq_true ⟨hk1, hk2⟩] at this
    exact this
  have DS : Hid (∀ wx : World, Calls Tryd.prog 18 #[.agg #[.bool d.neg, .string (dStr d.i), .string (dStr d.f)], .int .i64 k] wx fun e w' => e = .returned (.tuple #[.agg #[.bool x.neg, .string (dStr x.i), .string (dStr x.f)], .int .i64 0]) ∧ Below wx.heap.size wx w') := fun wx => shift_ok d k wx (some x) ho hd (by omega) hk2
  have DO := Lib.hid (fun wx => operandsOf_any x t k wx ht hx)
  clear hd ho hx ht
  go_enter Tryd.func7, Tryd.ntmps7
  go_wp2_with fail
  obtain ⟨W2, hW2⟩ : ∃ W2, W2 = (w.alloc (.cells #[.bool d.neg, .string (dStr d.i), .string (dStr d.f)] 27)).alloc (.cells #[.bool false, .string ⟨#[]⟩, .string ⟨#[]⟩, .string ⟨#[]⟩, .int .i64 0, .int .i64 0, .string ⟨#[]⟩, .string ⟨#[]⟩, .int .i64 0] 30) := ⟨_, rfl⟩
  obtain ⟨hb2, hz2, CA, CR, FR⟩ := dec_ops w (d.neg) (dStr d.i) (dStr d.f) 27 30
  rw [← hW2] at hb2 hz2 CA CR FR ⊢
  clear hW2
  (with_reducible refine (DC.out _).mono ?_)
  rintro e W3 ⟨rfl, hb3⟩
  have CA3 := CA.keep hb3 (by omega)
  have CR3 := Lib.hid (CR.keep hb3 (by omega))
  have FR3 := Lib.hid (frozen_keep FR hb3 (by omega))
  have hz3 : w.heap.size + 2 ≤ W3.heap.size := by have := hb3.size; omega
  have B3 := Lib.hid (hb2.trans (hb3.mono hb2.size))
  clear hb3 hb2 CA CR FR hz2
  go_wp2_with fail
  (with_reducible refine (DE.out _).mono ?_)
  rintro e W4 ⟨rfl, rfl⟩
  have a0 := CA3.1
  have a1 := CA3.2.1
  have a2 := CA3.2.2
  go_wp2_with fail
  (with_reducible refine (DS.out _).mono ?_)
  rintro e W5 ⟨rfl, hb5⟩
  have CR5 := Lib.hid (CR3.out.keep hb5 (by omega))
  have FR5 := Lib.hid (frozen_keep FR3.out hb5 (by omega))
  have hz5 : w.heap.size + 2 ≤ W5.heap.size := by have := hb5.size; omega
  have B5 := Lib.hid (B3.out.trans (hb5.mono B3.out.size))
  clear hb5 CR3 FR3 hz3 B3 CA3 a0 a1 a2
  obtain ⟨W6, hW6⟩ : ∃ W6, W6 = W5.alloc (.cells #[.bool x.neg, .string (dStr x.i), .string (dStr x.f)] 27) := ⟨_, rfl⟩
  have ba : Below W5.heap.size W5 W6 := by rw [hW6]; exact (Below.refl _ _).alloc (Nat.le_refl _) _
  have CR6 := CR5.out.keep ba (by omega)
  have FR6 := frozen_keep FR5.out ba (by omega)
  have B6 := B5.out.trans (ba.mono B5.out.size)
  have hz6 : w.heap.size + 2 ≤ W6.heap.size := by have := ba.size; omega
  have CX : Cells3 W6 W5.heap.size (.bool x.neg) (.string (dStr x.i)) (.string (dStr x.f)) := by rw [hW6]; exact (one_box _ _ _ _ _).2.1
  have a0 := CX.1
  have a1 := CX.2.1
  have a2 := CX.2.2
  have HW6 := Lib.hid hW6
  have KR6 := Lib.hid CR6
  have KF6 := Lib.hid FR6
  have KB6 := Lib.hid B6
  clear hW6 ba CR5 FR5 B5 CX CR6 FR6 B6 hz5
  go_wp2_with fail
  rw [← HW6.out]
  (with_reducible refine (DO.out _).mono ?_)
  rintro e W7 ⟨rfl, hb7⟩
  have CR7 := Lib.hid (KR6.out.keep hb7 (by omega))
  have FR7 := Lib.hid (frozen_keep KF6.out hb7 (by omega))
  have B7 := Lib.hid (KB6.out.trans (hb7.mono KB6.out.size))
  clear hb7 KR6 KF6 KB6 hz6 a0 a1 a2 HW6
  obtain ⟨r0, r1, r2, r3, r4, r5, r6, r7, r8⟩ := CR7.out
  have z0 := FR7.out
  obtain ⟨e0, e1, e2, e3, e4, e5, e6, e7, e8⟩ := res_cells9 CR7.out (.bool false) (.string (dStr t.i)) (.string (dStr t.f)) (.string (dStr x.i)) (.int .i64 x.f.length) (.int .i64 t.f.length) (.string (dStr (intg x.f))) (.string (dStr (intg t.f))) (.int .i64 k)
  go_wp2
  exact bodyPost_ret (v := .tuple #[.agg #[.bool false, .string (dStr t.i), .string (dStr t.f), .string (dStr x.i), .int .i64 x.f.length, .int .i64 t.f.length, .string (dStr (intg x.f)), .string (dStr (intg t.f)), .int .i64 k], .int .i64 0]) (by simp [results, Tryd.results7, go_sem, e0, e1, e2, e3, e4, e5, e6, e7, e8]) rfl ⟨rfl, res_below9 B7.out (by omega) _ _ _ _ _ _ _ _ _⟩

end Go.Proofs.YtmggdnnffdaffaaDoor
