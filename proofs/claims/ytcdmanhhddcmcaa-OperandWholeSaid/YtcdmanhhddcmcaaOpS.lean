/- Get of the program, letter by letter. -/
import Derived.Test.YtcdmanhhddcmcaaOpG
import Derived.Test.YtcdmanhhddcmcaaDOf
namespace Go.Proofs.Ytcdmanhhddcmcaa
open Go.RowKit
attribute [local go_sem ↓] Go.wp_at_zero Go.wp_at_succ

set_option maxHeartbeats 4000000 in
set_option maxRecDepth 100000 in
theorem get_no (on : Bool) (oi oj oI : ByteArray) (oV oW : Int) (oG oT : ByteArray) (oX : Int) (L : ByteArray)
    (H1 : ∀ wx : World, Calls Try.prog 15 #[.agg #[.bool on, .string oi, .string oj, .string oI, .int .i64 oV, .int .i64 oW, .string oG, .string oT, .int .i64 oX]] wx fun e w' => e = .returned (.int .i64 40) ∧ Below wx.heap.size wx w') (w : World) :
    Calls Try.prog 44 #[.agg #[.bool on, .string oi, .string oj, .string oI, .int .i64 oV, .int .i64 oW, .string oG, .string oT, .int .i64 oX], .string L] w fun e w' => e = .returned (.tuple #[.agg #[.bool false, .string ⟨#[]⟩, .string ⟨#[]⟩], .int .i64 40]) ∧ Below w.heap.size w w' := by
  have DC := Lib.hid H1
  clear H1
  go_enter Try.func44, Try.ntmps44
  go_wp2_with fail
  obtain ⟨W2, hW2⟩ : ∃ W2, W2 = (w.alloc (.cells #[.bool on, .string oi, .string oj, .string oI, .int .i64 oV, .int .i64 oW, .string oG, .string oT, .int .i64 oX] 25)).alloc (.cells #[.bool false, .string ⟨#[]⟩, .string ⟨#[]⟩] 23) := ⟨_, rfl⟩
  obtain ⟨hb2, hz2, CA, CR, FR⟩ := ops_dec w (.bool on) (.string oi) (.string oj) (.string oI) (.int .i64 oV) (.int .i64 oW) (.string oG) (.string oT) (.int .i64 oX) 25 23
  rw [← hW2] at hb2 hz2 CA CR FR ⊢
  clear hW2
  (with_reducible refine (DC.out _).mono ?_)
  rintro e W3 ⟨rfl, hb3⟩
  have CA3 := CA.keep hb3 (by omega)
  have CR3 := Lib.hid (CR.keep hb3 (by omega))
  have FR3 := Lib.hid (frozen_keep FR hb3 (by omega))
  have hz3 : w.heap.size + 2 ≤ W3.heap.size := by have := hb3.size; omega
  have B3 := Lib.hid (hb2.trans (hb3.mono hb2.size))
  clear hb3 hb2 CA CR FR hz2
  obtain ⟨a0, a1, a2, a3, a4, a5, a6, a7, a8⟩ := CA3
  obtain ⟨r0, r1, r2⟩ := CR3.out
  have z0 := FR3.out
  obtain ⟨e0, e1, e2⟩ := res_cells r0 r1 r2 (.bool false) (.string ⟨#[]⟩) (.string ⟨#[]⟩)
  clear a0 a1 a2 a3 a4 a5 a6 a7 a8
  go_wp2
  exact bodyPost_ret (v := .tuple #[.agg #[.bool false, .string ⟨#[]⟩, .string ⟨#[]⟩], .int .i64 40]) (by simp [results, Try.results44, go_sem, e0, e1, e2]) rfl ⟨rfl, res_below B3.out (by omega) _ _ _⟩

set_option maxHeartbeats 4000000 in
set_option maxRecDepth 100000 in
theorem get_letter (on : Bool) (oi oj oI : ByteArray) (oV oW : Int) (oG oT : ByteArray) (oX : Int) (L : ByteArray) (qn : (L.toList == [110]) = false) (qi : (L.toList == [105]) = false) (qv : (L.toList == [118]) = false) (qw : (L.toList == [119]) = false) (qf : (L.toList == [102]) = false) (qt : (L.toList == [116]) = false) (qc : (L.toList == [99]) = false) (qe : (L.toList == [101]) = false)
    (H1 : ∀ wx : World, Calls Try.prog 15 #[.agg #[.bool on, .string oi, .string oj, .string oI, .int .i64 oV, .int .i64 oW, .string oG, .string oT, .int .i64 oX]] wx fun e w' => e = .returned (.int .i64 0) ∧ Below wx.heap.size wx w') (w : World) :
    Calls Try.prog 44 #[.agg #[.bool on, .string oi, .string oj, .string oI, .int .i64 oV, .int .i64 oW, .string oG, .string oT, .int .i64 oX], .string L] w fun e w' => e = .returned (.tuple #[.agg #[.bool false, .string ⟨#[]⟩, .string ⟨#[]⟩], .int .i64 40]) ∧ Below w.heap.size w w' := by
  have DC := Lib.hid H1
  clear H1
  go_enter Try.func44, Try.ntmps44
  go_wp2_with fail
  obtain ⟨W2, hW2⟩ : ∃ W2, W2 = (w.alloc (.cells #[.bool on, .string oi, .string oj, .string oI, .int .i64 oV, .int .i64 oW, .string oG, .string oT, .int .i64 oX] 25)).alloc (.cells #[.bool false, .string ⟨#[]⟩, .string ⟨#[]⟩] 23) := ⟨_, rfl⟩
  obtain ⟨hb2, hz2, CA, CR, FR⟩ := ops_dec w (.bool on) (.string oi) (.string oj) (.string oI) (.int .i64 oV) (.int .i64 oW) (.string oG) (.string oT) (.int .i64 oX) 25 23
  rw [← hW2] at hb2 hz2 CA CR FR ⊢
  clear hW2
  (with_reducible refine (DC.out _).mono ?_)
  rintro e W3 ⟨rfl, hb3⟩
  have CA3 := CA.keep hb3 (by omega)
  have CR3 := Lib.hid (CR.keep hb3 (by omega))
  have FR3 := Lib.hid (frozen_keep FR hb3 (by omega))
  have hz3 : w.heap.size + 2 ≤ W3.heap.size := by have := hb3.size; omega
  have B3 := Lib.hid (hb2.trans (hb3.mono hb2.size))
  clear hb3 hb2 CA CR FR hz2
  obtain ⟨a0, a1, a2, a3, a4, a5, a6, a7, a8⟩ := CA3
  obtain ⟨r0, r1, r2⟩ := CR3.out
  have z0 := FR3.out
  obtain ⟨e0, e1, e2⟩ := res_cells r0 r1 r2 (.bool false) (.string ⟨#[]⟩) (.string ⟨#[]⟩)
  clear a0 a1 a2 a3 a4 a5 a6 a7 a8
  go_wp2
  exact bodyPost_ret (v := .tuple #[.agg #[.bool false, .string ⟨#[]⟩, .string ⟨#[]⟩], .int .i64 40]) (by simp [results, Try.results44, go_sem, e0, e1, e2]) rfl ⟨rfl, res_below B3.out (by omega) _ _ _⟩

set_option maxHeartbeats 4000000 in
set_option maxRecDepth 100000 in
theorem get_i (on : Bool) (oi oj oI : ByteArray) (oV oW : Int) (oG oT : ByteArray) (oX : Int) (rn : Bool) (ri rf : ByteArray) (c : Int)
    (H1 : ∀ wx : World, Calls Try.prog 15 #[.agg #[.bool on, .string oi, .string oj, .string oI, .int .i64 oV, .int .i64 oW, .string oG, .string oT, .int .i64 oX]] wx fun e w' => e = .returned (.int .i64 0) ∧ Below wx.heap.size wx w')
    (H2 : ∀ wx : World, Calls Try.prog 78 #[.string oI] wx fun e w' => e = .returned (.tuple #[.agg #[.bool rn, .string ri, .string rf], .int .i64 c]) ∧ Below wx.heap.size wx w') (w : World) :
    Calls Try.prog 44 #[.agg #[.bool on, .string oi, .string oj, .string oI, .int .i64 oV, .int .i64 oW, .string oG, .string oT, .int .i64 oX], .string ⟨#[105]⟩] w fun e w' => e = .returned (.tuple #[.agg #[.bool rn, .string ri, .string rf], .int .i64 c]) ∧ Below w.heap.size w w' := by
  have DC := Lib.hid H1
  have DX := Lib.hid H2
  clear H1 H2
  go_enter Try.func44, Try.ntmps44
  go_wp2_with fail
  obtain ⟨W2, hW2⟩ : ∃ W2, W2 = (w.alloc (.cells #[.bool on, .string oi, .string oj, .string oI, .int .i64 oV, .int .i64 oW, .string oG, .string oT, .int .i64 oX] 25)).alloc (.cells #[.bool false, .string ⟨#[]⟩, .string ⟨#[]⟩] 23) := ⟨_, rfl⟩
  obtain ⟨hb2, hz2, CA, CR, FR⟩ := ops_dec w (.bool on) (.string oi) (.string oj) (.string oI) (.int .i64 oV) (.int .i64 oW) (.string oG) (.string oT) (.int .i64 oX) 25 23
  rw [← hW2] at hb2 hz2 CA CR FR ⊢
  clear hW2
  (with_reducible refine (DC.out _).mono ?_)
  rintro e W3 ⟨rfl, hb3⟩
  have CA3 := CA.keep hb3 (by omega)
  have CR3 := Lib.hid (CR.keep hb3 (by omega))
  have FR3 := Lib.hid (frozen_keep FR hb3 (by omega))
  have hz3 : w.heap.size + 2 ≤ W3.heap.size := by have := hb3.size; omega
  have B3 := Lib.hid (hb2.trans (hb3.mono hb2.size))
  clear hb3 hb2 CA CR FR hz2
  obtain ⟨a0, a1, a2, a3, a4, a5, a6, a7, a8⟩ := CA3
  go_wp2_with fail
  (with_reducible refine (DX.out _).mono ?_)
  rintro e W4 ⟨rfl, hb4⟩
  obtain ⟨r0, r1, r2⟩ := CR3.out.keep hb4 (by omega)
  have z0 := frozen_keep FR3.out hb4 (by omega)
  obtain ⟨e0, e1, e2⟩ := res_cells r0 r1 r2 (.bool rn) (.string ri) (.string rf)
  have B4 := Lib.hid (B3.out.trans (hb4.mono B3.out.size))
  clear hb4
  clear a0 a1 a2 a3 a4 a5 a6 a7 a8
  go_wp2
  exact bodyPost_ret (v := .tuple #[.agg #[.bool rn, .string ri, .string rf], .int .i64 c]) (by simp [results, Try.results44, go_sem, e0, e1, e2]) rfl ⟨rfl, res_below B4.out (by omega) _ _ _⟩

set_option maxHeartbeats 4000000 in
set_option maxRecDepth 100000 in
theorem get_f (on : Bool) (oi oj oI : ByteArray) (oV oW : Int) (oG oT : ByteArray) (oX : Int) (rn : Bool) (ri rf : ByteArray) (c : Int)
    (H1 : ∀ wx : World, Calls Try.prog 15 #[.agg #[.bool on, .string oi, .string oj, .string oI, .int .i64 oV, .int .i64 oW, .string oG, .string oT, .int .i64 oX]] wx fun e w' => e = .returned (.int .i64 0) ∧ Below wx.heap.size wx w')
    (H2 : ∀ wx : World, Calls Try.prog 78 #[.string oG] wx fun e w' => e = .returned (.tuple #[.agg #[.bool rn, .string ri, .string rf], .int .i64 c]) ∧ Below wx.heap.size wx w') (w : World) :
    Calls Try.prog 44 #[.agg #[.bool on, .string oi, .string oj, .string oI, .int .i64 oV, .int .i64 oW, .string oG, .string oT, .int .i64 oX], .string ⟨#[102]⟩] w fun e w' => e = .returned (.tuple #[.agg #[.bool rn, .string ri, .string rf], .int .i64 c]) ∧ Below w.heap.size w w' := by
  have DC := Lib.hid H1
  have DX := Lib.hid H2
  clear H1 H2
  go_enter Try.func44, Try.ntmps44
  go_wp2_with fail
  obtain ⟨W2, hW2⟩ : ∃ W2, W2 = (w.alloc (.cells #[.bool on, .string oi, .string oj, .string oI, .int .i64 oV, .int .i64 oW, .string oG, .string oT, .int .i64 oX] 25)).alloc (.cells #[.bool false, .string ⟨#[]⟩, .string ⟨#[]⟩] 23) := ⟨_, rfl⟩
  obtain ⟨hb2, hz2, CA, CR, FR⟩ := ops_dec w (.bool on) (.string oi) (.string oj) (.string oI) (.int .i64 oV) (.int .i64 oW) (.string oG) (.string oT) (.int .i64 oX) 25 23
  rw [← hW2] at hb2 hz2 CA CR FR ⊢
  clear hW2
  (with_reducible refine (DC.out _).mono ?_)
  rintro e W3 ⟨rfl, hb3⟩
  have CA3 := CA.keep hb3 (by omega)
  have CR3 := Lib.hid (CR.keep hb3 (by omega))
  have FR3 := Lib.hid (frozen_keep FR hb3 (by omega))
  have hz3 : w.heap.size + 2 ≤ W3.heap.size := by have := hb3.size; omega
  have B3 := Lib.hid (hb2.trans (hb3.mono hb2.size))
  clear hb3 hb2 CA CR FR hz2
  obtain ⟨a0, a1, a2, a3, a4, a5, a6, a7, a8⟩ := CA3
  go_wp2_with fail
  (with_reducible refine (DX.out _).mono ?_)
  rintro e W4 ⟨rfl, hb4⟩
  obtain ⟨r0, r1, r2⟩ := CR3.out.keep hb4 (by omega)
  have z0 := frozen_keep FR3.out hb4 (by omega)
  obtain ⟨e0, e1, e2⟩ := res_cells r0 r1 r2 (.bool rn) (.string ri) (.string rf)
  have B4 := Lib.hid (B3.out.trans (hb4.mono B3.out.size))
  clear hb4
  clear a0 a1 a2 a3 a4 a5 a6 a7 a8
  go_wp2
  exact bodyPost_ret (v := .tuple #[.agg #[.bool rn, .string ri, .string rf], .int .i64 c]) (by simp [results, Try.results44, go_sem, e0, e1, e2]) rfl ⟨rfl, res_below B4.out (by omega) _ _ _⟩

set_option maxHeartbeats 4000000 in
set_option maxRecDepth 100000 in
theorem get_tt (on : Bool) (oi oj oI : ByteArray) (oV oW : Int) (oG oT : ByteArray) (oX : Int) (rn : Bool) (ri rf : ByteArray) (c : Int)
    (H1 : ∀ wx : World, Calls Try.prog 15 #[.agg #[.bool on, .string oi, .string oj, .string oI, .int .i64 oV, .int .i64 oW, .string oG, .string oT, .int .i64 oX]] wx fun e w' => e = .returned (.int .i64 0) ∧ Below wx.heap.size wx w')
    (H2 : ∀ wx : World, Calls Try.prog 78 #[.string oT] wx fun e w' => e = .returned (.tuple #[.agg #[.bool rn, .string ri, .string rf], .int .i64 c]) ∧ Below wx.heap.size wx w') (w : World) :
    Calls Try.prog 44 #[.agg #[.bool on, .string oi, .string oj, .string oI, .int .i64 oV, .int .i64 oW, .string oG, .string oT, .int .i64 oX], .string ⟨#[116]⟩] w fun e w' => e = .returned (.tuple #[.agg #[.bool rn, .string ri, .string rf], .int .i64 c]) ∧ Below w.heap.size w w' := by
  have DC := Lib.hid H1
  have DX := Lib.hid H2
  clear H1 H2
  go_enter Try.func44, Try.ntmps44
  go_wp2_with fail
  obtain ⟨W2, hW2⟩ : ∃ W2, W2 = (w.alloc (.cells #[.bool on, .string oi, .string oj, .string oI, .int .i64 oV, .int .i64 oW, .string oG, .string oT, .int .i64 oX] 25)).alloc (.cells #[.bool false, .string ⟨#[]⟩, .string ⟨#[]⟩] 23) := ⟨_, rfl⟩
  obtain ⟨hb2, hz2, CA, CR, FR⟩ := ops_dec w (.bool on) (.string oi) (.string oj) (.string oI) (.int .i64 oV) (.int .i64 oW) (.string oG) (.string oT) (.int .i64 oX) 25 23
  rw [← hW2] at hb2 hz2 CA CR FR ⊢
  clear hW2
  (with_reducible refine (DC.out _).mono ?_)
  rintro e W3 ⟨rfl, hb3⟩
  have CA3 := CA.keep hb3 (by omega)
  have CR3 := Lib.hid (CR.keep hb3 (by omega))
  have FR3 := Lib.hid (frozen_keep FR hb3 (by omega))
  have hz3 : w.heap.size + 2 ≤ W3.heap.size := by have := hb3.size; omega
  have B3 := Lib.hid (hb2.trans (hb3.mono hb2.size))
  clear hb3 hb2 CA CR FR hz2
  obtain ⟨a0, a1, a2, a3, a4, a5, a6, a7, a8⟩ := CA3
  go_wp2_with fail
  (with_reducible refine (DX.out _).mono ?_)
  rintro e W4 ⟨rfl, hb4⟩
  obtain ⟨r0, r1, r2⟩ := CR3.out.keep hb4 (by omega)
  have z0 := frozen_keep FR3.out hb4 (by omega)
  obtain ⟨e0, e1, e2⟩ := res_cells r0 r1 r2 (.bool rn) (.string ri) (.string rf)
  have B4 := Lib.hid (B3.out.trans (hb4.mono B3.out.size))
  clear hb4
  clear a0 a1 a2 a3 a4 a5 a6 a7 a8
  go_wp2
  exact bodyPost_ret (v := .tuple #[.agg #[.bool rn, .string ri, .string rf], .int .i64 c]) (by simp [results, Try.results44, go_sem, e0, e1, e2]) rfl ⟨rfl, res_below B4.out (by omega) _ _ _⟩

set_option maxHeartbeats 4000000 in
set_option maxRecDepth 100000 in
theorem get_n (on : Bool) (oi oj oI : ByteArray) (oV oW : Int) (oG oT : ByteArray) (oX : Int) (rn : Bool) (ri rf : ByteArray) (c : Int)
    (H1 : ∀ wx : World, Calls Try.prog 15 #[.agg #[.bool on, .string oi, .string oj, .string oI, .int .i64 oV, .int .i64 oW, .string oG, .string oT, .int .i64 oX]] wx fun e w' => e = .returned (.int .i64 0) ∧ Below wx.heap.size wx w')
    (H2 : ∀ wx : World, Calls Try.prog 25 #[.agg #[.bool on, .string oi, .string oj]] wx fun e w' => e = .returned (.tuple #[.agg #[.bool rn, .string ri, .string rf], .int .i64 c]) ∧ Below wx.heap.size wx w') (w : World) :
    Calls Try.prog 44 #[.agg #[.bool on, .string oi, .string oj, .string oI, .int .i64 oV, .int .i64 oW, .string oG, .string oT, .int .i64 oX], .string ⟨#[110]⟩] w fun e w' => e = .returned (.tuple #[.agg #[.bool rn, .string ri, .string rf], .int .i64 c]) ∧ Below w.heap.size w w' := by
  have DC := Lib.hid H1
  have DX := Lib.hid H2
  clear H1 H2
  go_enter Try.func44, Try.ntmps44
  go_wp2_with fail
  obtain ⟨W2, hW2⟩ : ∃ W2, W2 = (w.alloc (.cells #[.bool on, .string oi, .string oj, .string oI, .int .i64 oV, .int .i64 oW, .string oG, .string oT, .int .i64 oX] 25)).alloc (.cells #[.bool false, .string ⟨#[]⟩, .string ⟨#[]⟩] 23) := ⟨_, rfl⟩
  obtain ⟨hb2, hz2, CA, CR, FR⟩ := ops_dec w (.bool on) (.string oi) (.string oj) (.string oI) (.int .i64 oV) (.int .i64 oW) (.string oG) (.string oT) (.int .i64 oX) 25 23
  rw [← hW2] at hb2 hz2 CA CR FR ⊢
  clear hW2
  (with_reducible refine (DC.out _).mono ?_)
  rintro e W3 ⟨rfl, hb3⟩
  have CA3 := CA.keep hb3 (by omega)
  have CR3 := Lib.hid (CR.keep hb3 (by omega))
  have FR3 := Lib.hid (frozen_keep FR hb3 (by omega))
  have hz3 : w.heap.size + 2 ≤ W3.heap.size := by have := hb3.size; omega
  have B3 := Lib.hid (hb2.trans (hb3.mono hb2.size))
  clear hb3 hb2 CA CR FR hz2
  obtain ⟨a0, a1, a2, a3, a4, a5, a6, a7, a8⟩ := CA3
  go_wp2_with fail
  (with_reducible refine (DX.out _).mono ?_)
  rintro e W4 ⟨rfl, hb4⟩
  obtain ⟨r0, r1, r2⟩ := CR3.out.keep hb4 (by omega)
  have z0 := frozen_keep FR3.out hb4 (by omega)
  obtain ⟨e0, e1, e2⟩ := res_cells r0 r1 r2 (.bool rn) (.string ri) (.string rf)
  have B4 := Lib.hid (B3.out.trans (hb4.mono B3.out.size))
  clear hb4
  clear a0 a1 a2 a3 a4 a5 a6 a7 a8
  go_wp2
  exact bodyPost_ret (v := .tuple #[.agg #[.bool rn, .string ri, .string rf], .int .i64 c]) (by simp [results, Try.results44, go_sem, e0, e1, e2]) rfl ⟨rfl, res_below B4.out (by omega) _ _ _⟩

set_option maxHeartbeats 4000000 in
set_option maxRecDepth 100000 in
theorem get_v (on : Bool) (oi oj oI : ByteArray) (oV oW : Int) (oG oT : ByteArray) (oX : Int) (rn : Bool) (ri rf : ByteArray)
    (H1 : ∀ wx : World, Calls Try.prog 15 #[.agg #[.bool on, .string oi, .string oj, .string oI, .int .i64 oV, .int .i64 oW, .string oG, .string oT, .int .i64 oX]] wx fun e w' => e = .returned (.int .i64 0) ∧ Below wx.heap.size wx w')
    (H2 : ∀ wx : World, Calls Try.prog 79 #[.int .i64 oV] wx fun e w' => e = .returned (.agg #[.bool rn, .string ri, .string rf]) ∧ Below wx.heap.size wx w') (w : World) :
    Calls Try.prog 44 #[.agg #[.bool on, .string oi, .string oj, .string oI, .int .i64 oV, .int .i64 oW, .string oG, .string oT, .int .i64 oX], .string ⟨#[118]⟩] w fun e w' => e = .returned (.tuple #[.agg #[.bool rn, .string ri, .string rf], .int .i64 0]) ∧ Below w.heap.size w w' := by
  have DC := Lib.hid H1
  have DX := Lib.hid H2
  clear H1 H2
  go_enter Try.func44, Try.ntmps44
  go_wp2_with fail
  obtain ⟨W2, hW2⟩ : ∃ W2, W2 = (w.alloc (.cells #[.bool on, .string oi, .string oj, .string oI, .int .i64 oV, .int .i64 oW, .string oG, .string oT, .int .i64 oX] 25)).alloc (.cells #[.bool false, .string ⟨#[]⟩, .string ⟨#[]⟩] 23) := ⟨_, rfl⟩
  obtain ⟨hb2, hz2, CA, CR, FR⟩ := ops_dec w (.bool on) (.string oi) (.string oj) (.string oI) (.int .i64 oV) (.int .i64 oW) (.string oG) (.string oT) (.int .i64 oX) 25 23
  rw [← hW2] at hb2 hz2 CA CR FR ⊢
  clear hW2
  (with_reducible refine (DC.out _).mono ?_)
  rintro e W3 ⟨rfl, hb3⟩
  have CA3 := CA.keep hb3 (by omega)
  have CR3 := Lib.hid (CR.keep hb3 (by omega))
  have FR3 := Lib.hid (frozen_keep FR hb3 (by omega))
  have hz3 : w.heap.size + 2 ≤ W3.heap.size := by have := hb3.size; omega
  have B3 := Lib.hid (hb2.trans (hb3.mono hb2.size))
  clear hb3 hb2 CA CR FR hz2
  obtain ⟨a0, a1, a2, a3, a4, a5, a6, a7, a8⟩ := CA3
  go_wp2_with fail
  (with_reducible refine (DX.out _).mono ?_)
  rintro e W4 ⟨rfl, hb4⟩
  obtain ⟨r0, r1, r2⟩ := CR3.out.keep hb4 (by omega)
  have z0 := frozen_keep FR3.out hb4 (by omega)
  obtain ⟨e0, e1, e2⟩ := res_cells r0 r1 r2 (.bool rn) (.string ri) (.string rf)
  have B4 := Lib.hid (B3.out.trans (hb4.mono B3.out.size))
  clear hb4
  clear a0 a1 a2 a3 a4 a5 a6 a7 a8
  go_wp2
  exact bodyPost_ret (v := .tuple #[.agg #[.bool rn, .string ri, .string rf], .int .i64 0]) (by simp [results, Try.results44, go_sem, e0, e1, e2]) rfl ⟨rfl, res_below B4.out (by omega) _ _ _⟩

set_option maxHeartbeats 4000000 in
set_option maxRecDepth 100000 in
theorem get_w (on : Bool) (oi oj oI : ByteArray) (oV oW : Int) (oG oT : ByteArray) (oX : Int) (rn : Bool) (ri rf : ByteArray)
    (H1 : ∀ wx : World, Calls Try.prog 15 #[.agg #[.bool on, .string oi, .string oj, .string oI, .int .i64 oV, .int .i64 oW, .string oG, .string oT, .int .i64 oX]] wx fun e w' => e = .returned (.int .i64 0) ∧ Below wx.heap.size wx w')
    (H2 : ∀ wx : World, Calls Try.prog 79 #[.int .i64 oW] wx fun e w' => e = .returned (.agg #[.bool rn, .string ri, .string rf]) ∧ Below wx.heap.size wx w') (w : World) :
    Calls Try.prog 44 #[.agg #[.bool on, .string oi, .string oj, .string oI, .int .i64 oV, .int .i64 oW, .string oG, .string oT, .int .i64 oX], .string ⟨#[119]⟩] w fun e w' => e = .returned (.tuple #[.agg #[.bool rn, .string ri, .string rf], .int .i64 0]) ∧ Below w.heap.size w w' := by
  have DC := Lib.hid H1
  have DX := Lib.hid H2
  clear H1 H2
  go_enter Try.func44, Try.ntmps44
  go_wp2_with fail
  obtain ⟨W2, hW2⟩ : ∃ W2, W2 = (w.alloc (.cells #[.bool on, .string oi, .string oj, .string oI, .int .i64 oV, .int .i64 oW, .string oG, .string oT, .int .i64 oX] 25)).alloc (.cells #[.bool false, .string ⟨#[]⟩, .string ⟨#[]⟩] 23) := ⟨_, rfl⟩
  obtain ⟨hb2, hz2, CA, CR, FR⟩ := ops_dec w (.bool on) (.string oi) (.string oj) (.string oI) (.int .i64 oV) (.int .i64 oW) (.string oG) (.string oT) (.int .i64 oX) 25 23
  rw [← hW2] at hb2 hz2 CA CR FR ⊢
  clear hW2
  (with_reducible refine (DC.out _).mono ?_)
  rintro e W3 ⟨rfl, hb3⟩
  have CA3 := CA.keep hb3 (by omega)
  have CR3 := Lib.hid (CR.keep hb3 (by omega))
  have FR3 := Lib.hid (frozen_keep FR hb3 (by omega))
  have hz3 : w.heap.size + 2 ≤ W3.heap.size := by have := hb3.size; omega
  have B3 := Lib.hid (hb2.trans (hb3.mono hb2.size))
  clear hb3 hb2 CA CR FR hz2
  obtain ⟨a0, a1, a2, a3, a4, a5, a6, a7, a8⟩ := CA3
  go_wp2_with fail
  (with_reducible refine (DX.out _).mono ?_)
  rintro e W4 ⟨rfl, hb4⟩
  obtain ⟨r0, r1, r2⟩ := CR3.out.keep hb4 (by omega)
  have z0 := frozen_keep FR3.out hb4 (by omega)
  obtain ⟨e0, e1, e2⟩ := res_cells r0 r1 r2 (.bool rn) (.string ri) (.string rf)
  have B4 := Lib.hid (B3.out.trans (hb4.mono B3.out.size))
  clear hb4
  clear a0 a1 a2 a3 a4 a5 a6 a7 a8
  go_wp2
  exact bodyPost_ret (v := .tuple #[.agg #[.bool rn, .string ri, .string rf], .int .i64 0]) (by simp [results, Try.results44, go_sem, e0, e1, e2]) rfl ⟨rfl, res_below B4.out (by omega) _ _ _⟩

set_option maxHeartbeats 4000000 in
set_option maxRecDepth 100000 in
theorem get_c (on : Bool) (oi oj oI : ByteArray) (oV oW : Int) (oG oT : ByteArray) (oX : Int) (rn : Bool) (ri rf : ByteArray)
    (H1 : ∀ wx : World, Calls Try.prog 15 #[.agg #[.bool on, .string oi, .string oj, .string oI, .int .i64 oV, .int .i64 oW, .string oG, .string oT, .int .i64 oX]] wx fun e w' => e = .returned (.int .i64 0) ∧ Below wx.heap.size wx w')
    (H2 : ∀ wx : World, Calls Try.prog 79 #[.int .i64 oX] wx fun e w' => e = .returned (.agg #[.bool rn, .string ri, .string rf]) ∧ Below wx.heap.size wx w') (w : World) :
    Calls Try.prog 44 #[.agg #[.bool on, .string oi, .string oj, .string oI, .int .i64 oV, .int .i64 oW, .string oG, .string oT, .int .i64 oX], .string ⟨#[99]⟩] w fun e w' => e = .returned (.tuple #[.agg #[.bool rn, .string ri, .string rf], .int .i64 0]) ∧ Below w.heap.size w w' := by
  have DC := Lib.hid H1
  have DX := Lib.hid H2
  clear H1 H2
  go_enter Try.func44, Try.ntmps44
  go_wp2_with fail
  obtain ⟨W2, hW2⟩ : ∃ W2, W2 = (w.alloc (.cells #[.bool on, .string oi, .string oj, .string oI, .int .i64 oV, .int .i64 oW, .string oG, .string oT, .int .i64 oX] 25)).alloc (.cells #[.bool false, .string ⟨#[]⟩, .string ⟨#[]⟩] 23) := ⟨_, rfl⟩
  obtain ⟨hb2, hz2, CA, CR, FR⟩ := ops_dec w (.bool on) (.string oi) (.string oj) (.string oI) (.int .i64 oV) (.int .i64 oW) (.string oG) (.string oT) (.int .i64 oX) 25 23
  rw [← hW2] at hb2 hz2 CA CR FR ⊢
  clear hW2
  (with_reducible refine (DC.out _).mono ?_)
  rintro e W3 ⟨rfl, hb3⟩
  have CA3 := CA.keep hb3 (by omega)
  have CR3 := Lib.hid (CR.keep hb3 (by omega))
  have FR3 := Lib.hid (frozen_keep FR hb3 (by omega))
  have hz3 : w.heap.size + 2 ≤ W3.heap.size := by have := hb3.size; omega
  have B3 := Lib.hid (hb2.trans (hb3.mono hb2.size))
  clear hb3 hb2 CA CR FR hz2
  obtain ⟨a0, a1, a2, a3, a4, a5, a6, a7, a8⟩ := CA3
  go_wp2_with fail
  (with_reducible refine (DX.out _).mono ?_)
  rintro e W4 ⟨rfl, hb4⟩
  obtain ⟨r0, r1, r2⟩ := CR3.out.keep hb4 (by omega)
  have z0 := frozen_keep FR3.out hb4 (by omega)
  obtain ⟨e0, e1, e2⟩ := res_cells r0 r1 r2 (.bool rn) (.string ri) (.string rf)
  have B4 := Lib.hid (B3.out.trans (hb4.mono B3.out.size))
  clear hb4
  clear a0 a1 a2 a3 a4 a5 a6 a7 a8
  go_wp2
  exact bodyPost_ret (v := .tuple #[.agg #[.bool rn, .string ri, .string rf], .int .i64 0]) (by simp [results, Try.results44, go_sem, e0, e1, e2]) rfl ⟨rfl, res_below B4.out (by omega) _ _ _⟩

set_option maxHeartbeats 4000000 in
set_option maxRecDepth 100000 in
theorem get_e (on : Bool) (oi oj oI : ByteArray) (oV oW : Int) (oG oT : ByteArray) (oX : Int) (rn : Bool) (ri rf : ByteArray)
    (H1 : ∀ wx : World, Calls Try.prog 15 #[.agg #[.bool on, .string oi, .string oj, .string oI, .int .i64 oV, .int .i64 oW, .string oG, .string oT, .int .i64 oX]] wx fun e w' => e = .returned (.int .i64 0) ∧ Below wx.heap.size wx w')
    (H2 : ∀ wx : World, Calls Try.prog 79 #[.int .i64 oX] wx fun e w' => e = .returned (.agg #[.bool rn, .string ri, .string rf]) ∧ Below wx.heap.size wx w') (w : World) :
    Calls Try.prog 44 #[.agg #[.bool on, .string oi, .string oj, .string oI, .int .i64 oV, .int .i64 oW, .string oG, .string oT, .int .i64 oX], .string ⟨#[101]⟩] w fun e w' => e = .returned (.tuple #[.agg #[.bool rn, .string ri, .string rf], .int .i64 0]) ∧ Below w.heap.size w w' := by
  have DC := Lib.hid H1
  have DX := Lib.hid H2
  clear H1 H2
  go_enter Try.func44, Try.ntmps44
  go_wp2_with fail
  obtain ⟨W2, hW2⟩ : ∃ W2, W2 = (w.alloc (.cells #[.bool on, .string oi, .string oj, .string oI, .int .i64 oV, .int .i64 oW, .string oG, .string oT, .int .i64 oX] 25)).alloc (.cells #[.bool false, .string ⟨#[]⟩, .string ⟨#[]⟩] 23) := ⟨_, rfl⟩
  obtain ⟨hb2, hz2, CA, CR, FR⟩ := ops_dec w (.bool on) (.string oi) (.string oj) (.string oI) (.int .i64 oV) (.int .i64 oW) (.string oG) (.string oT) (.int .i64 oX) 25 23
  rw [← hW2] at hb2 hz2 CA CR FR ⊢
  clear hW2
  (with_reducible refine (DC.out _).mono ?_)
  rintro e W3 ⟨rfl, hb3⟩
  have CA3 := CA.keep hb3 (by omega)
  have CR3 := Lib.hid (CR.keep hb3 (by omega))
  have FR3 := Lib.hid (frozen_keep FR hb3 (by omega))
  have hz3 : w.heap.size + 2 ≤ W3.heap.size := by have := hb3.size; omega
  have B3 := Lib.hid (hb2.trans (hb3.mono hb2.size))
  clear hb3 hb2 CA CR FR hz2
  obtain ⟨a0, a1, a2, a3, a4, a5, a6, a7, a8⟩ := CA3
  go_wp2_with fail
  (with_reducible refine (DX.out _).mono ?_)
  rintro e W4 ⟨rfl, hb4⟩
  obtain ⟨r0, r1, r2⟩ := CR3.out.keep hb4 (by omega)
  have z0 := frozen_keep FR3.out hb4 (by omega)
  obtain ⟨e0, e1, e2⟩ := res_cells r0 r1 r2 (.bool rn) (.string ri) (.string rf)
  have B4 := Lib.hid (B3.out.trans (hb4.mono B3.out.size))
  clear hb4
  clear a0 a1 a2 a3 a4 a5 a6 a7 a8
  go_wp2
  exact bodyPost_ret (v := .tuple #[.agg #[.bool rn, .string ri, .string rf], .int .i64 0]) (by simp [results, Try.results44, go_sem, e0, e1, e2]) rfl ⟨rfl, res_below B4.out (by omega) _ _ _⟩

end Go.Proofs.Ytcdmanhhddcmcaa
