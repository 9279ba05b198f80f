/- Mod of the program. -/
import Derived.Test.YtmggdnnffdaffaaDoorOpG
import Derived.Deep.RegionHeld3
namespace Go.Proofs.YtmggdnnffdaffaaDoor
open Go.RowKit
attribute [local go_sem ↓] Go.wp_at_zero Go.wp_at_succ

theorem alloc_far (W : World) (b i : Nat) (o : Obj) (h : b < W.heap.size) : (W.alloc o).cell? ⟨b, i, none⟩ = W.cell? ⟨b, i, none⟩ := ((Below.refl W.heap.size W).alloc (Nat.le_refl _) o).cell (p := ⟨b, i, none⟩) h
theorem below_via {V X w' : World} (h : Below X.heap.size X w') (h1 : Below V.heap.size V X) : Below V.heap.size V w' := h1.trans (h.mono h1.size)
set_option maxRecDepth 100000 in
theorem whole_any (s : ByteArray) (w : World) : Calls Tryd.prog 44 #[.string s] w fun e w' => e = .returned (.agg #[.bool false, .string s, .string ⟨#[]⟩]) ∧ Below w.heap.size w w' := by
  go_enter Tryd.func44, Tryd.ntmps44
  go_wp2
  exact bodyPost_ret (v := .agg #[.bool false, .string s, .string ⟨#[]⟩]) (by simp [results, Tryd.results44, go_sem]) rfl ⟨rfl, (Below.refl _ w).alloc (Nat.le_refl _) _⟩

set_option maxHeartbeats 4000000 in
set_option maxRecDepth 100000 in
theorem mod_err40 (on : Bool) (oi oj oI : ByteArray) (oV oW : Int) (oG oT : ByteArray) (oX : Int) (L : ByteArray) (by_ : ByteArray) (xn : Bool) (xi xf : ByteArray)
    (H1 : ∀ wx : World, Calls Tryd.prog 42 #[.agg #[.bool on, .string oi, .string oj, .string oI, .int .i64 oV, .int .i64 oW, .string oG, .string oT, .int .i64 oX], .string L] wx fun e w' => e = .returned (.tuple #[.agg #[.bool xn, .string xi, .string xf], .int .i64 40]) ∧ Below wx.heap.size wx w') (w : World) :
    Calls Tryd.prog 23 #[.agg #[.bool on, .string oi, .string oj, .string oI, .int .i64 oV, .int .i64 oW, .string oG, .string oT, .int .i64 oX], .string L, .string by_] w fun e w' => e = .returned (.tuple #[.agg #[.bool xn, .string xi, .string xf], .int .i64 40]) ∧ Below w.heap.size w w' := by
  have DG := Lib.hid H1
  clear H1
  go_enter Tryd.func23, Tryd.ntmps23
  go_wp2_with fail
  obtain ⟨W2, hW2⟩ : ∃ W2, W2 = (w.alloc (.cells #[.bool on, .string oi, .string oj, .string oI, .int .i64 oV, .int .i64 oW, .string oG, .string oT, .int .i64 oX] 30)).alloc (.cells #[.bool false, .string ⟨#[]⟩, .string ⟨#[]⟩] 27) := ⟨_, rfl⟩
  obtain ⟨hb2, hz2, CA, CR, FR⟩ := ops_dec w (.bool on) (.string oi) (.string oj) (.string oI) (.int .i64 oV) (.int .i64 oW) (.string oG) (.string oT) (.int .i64 oX) 30 27
  rw [← hW2] at hb2 hz2 CA CR FR ⊢
  clear hW2
  (with_reducible refine (DG.out _).mono ?_)
  rintro e W3 ⟨rfl, hb3⟩
  have ba : Below W3.heap.size W3 (W3.alloc (.cells #[.bool xn, .string xi, .string xf] 27)) := (Below.refl _ _).alloc (Nat.le_refl _) _
  have h3 : w.heap.size + 2 ≤ W3.heap.size := by have := hb3.size; omega
  have CR3 := Lib.hid ((CR.keep hb3 (by omega)).keep ba (by omega))
  have FR3 := Lib.hid (frozen_keep (frozen_keep FR hb3 (by omega)) ba (by omega))
  have B3 := Lib.hid ((hb2.trans (hb3.mono hb2.size)).trans (ba.mono (by have := hb3.size; have := hb2.size; omega)))
  obtain ⟨x0, x1, x2⟩ := (one_box W3 (.bool xn) (.string xi) (.string xf) 27).2.1
  clear hb3 hb2 CA CR FR hz2 ba
  obtain ⟨r0, r1, r2⟩ := CR3.out
  have z0 := FR3.out
  obtain ⟨e0, e1, e2⟩ := res_cells r0 r1 r2 (.bool xn) (.string xi) (.string xf)
  go_wp2
  exact bodyPost_ret (v := .tuple #[.agg #[.bool xn, .string xi, .string xf], .int .i64 40]) (by simp [results, Tryd.results23, go_sem, e0, e1, e2]) rfl ⟨rfl, res_below B3.out (by omega) _ _ _⟩

set_option maxHeartbeats 4000000 in
set_option maxRecDepth 100000 in
theorem mod_err20 (on : Bool) (oi oj oI : ByteArray) (oV oW : Int) (oG oT : ByteArray) (oX : Int) (L : ByteArray) (by_ : ByteArray) (xn : Bool) (xi xf : ByteArray)
    (H1 : ∀ wx : World, Calls Tryd.prog 42 #[.agg #[.bool on, .string oi, .string oj, .string oI, .int .i64 oV, .int .i64 oW, .string oG, .string oT, .int .i64 oX], .string L] wx fun e w' => e = .returned (.tuple #[.agg #[.bool xn, .string xi, .string xf], .int .i64 20]) ∧ Below wx.heap.size wx w') (w : World) :
    Calls Tryd.prog 23 #[.agg #[.bool on, .string oi, .string oj, .string oI, .int .i64 oV, .int .i64 oW, .string oG, .string oT, .int .i64 oX], .string L, .string by_] w fun e w' => e = .returned (.tuple #[.agg #[.bool xn, .string xi, .string xf], .int .i64 20]) ∧ Below w.heap.size w w' := by
  have DG := Lib.hid H1
  clear H1
  go_enter Tryd.func23, Tryd.ntmps23
  go_wp2_with fail
  obtain ⟨W2, hW2⟩ : ∃ W2, W2 = (w.alloc (.cells #[.bool on, .string oi, .string oj, .string oI, .int .i64 oV, .int .i64 oW, .string oG, .string oT, .int .i64 oX] 30)).alloc (.cells #[.bool false, .string ⟨#[]⟩, .string ⟨#[]⟩] 27) := ⟨_, rfl⟩
  obtain ⟨hb2, hz2, CA, CR, FR⟩ := ops_dec w (.bool on) (.string oi) (.string oj) (.string oI) (.int .i64 oV) (.int .i64 oW) (.string oG) (.string oT) (.int .i64 oX) 30 27
  rw [← hW2] at hb2 hz2 CA CR FR ⊢
  clear hW2
  (with_reducible refine (DG.out _).mono ?_)
  rintro e W3 ⟨rfl, hb3⟩
  have ba : Below W3.heap.size W3 (W3.alloc (.cells #[.bool xn, .string xi, .string xf] 27)) := (Below.refl _ _).alloc (Nat.le_refl _) _
  have h3 : w.heap.size + 2 ≤ W3.heap.size := by have := hb3.size; omega
  have CR3 := Lib.hid ((CR.keep hb3 (by omega)).keep ba (by omega))
  have FR3 := Lib.hid (frozen_keep (frozen_keep FR hb3 (by omega)) ba (by omega))
  have B3 := Lib.hid ((hb2.trans (hb3.mono hb2.size)).trans (ba.mono (by have := hb3.size; have := hb2.size; omega)))
  obtain ⟨x0, x1, x2⟩ := (one_box W3 (.bool xn) (.string xi) (.string xf) 27).2.1
  clear hb3 hb2 CA CR FR hz2 ba
  obtain ⟨r0, r1, r2⟩ := CR3.out
  have z0 := FR3.out
  obtain ⟨e0, e1, e2⟩ := res_cells r0 r1 r2 (.bool xn) (.string xi) (.string xf)
  go_wp2
  exact bodyPost_ret (v := .tuple #[.agg #[.bool xn, .string xi, .string xf], .int .i64 20]) (by simp [results, Tryd.results23, go_sem, e0, e1, e2]) rfl ⟨rfl, res_below B3.out (by omega) _ _ _⟩

set_option maxHeartbeats 4000000 in
set_option maxRecDepth 100000 in
theorem mod_err3 (on : Bool) (oi oj oI : ByteArray) (oV oW : Int) (oG oT : ByteArray) (oX : Int) (L : ByteArray) (by_ : ByteArray) (xn : Bool) (xi xf : ByteArray)
    (H1 : ∀ wx : World, Calls Tryd.prog 42 #[.agg #[.bool on, .string oi, .string oj, .string oI, .int .i64 oV, .int .i64 oW, .string oG, .string oT, .int .i64 oX], .string L] wx fun e w' => e = .returned (.tuple #[.agg #[.bool xn, .string xi, .string xf], .int .i64 3]) ∧ Below wx.heap.size wx w') (w : World) :
    Calls Tryd.prog 23 #[.agg #[.bool on, .string oi, .string oj, .string oI, .int .i64 oV, .int .i64 oW, .string oG, .string oT, .int .i64 oX], .string L, .string by_] w fun e w' => e = .returned (.tuple #[.agg #[.bool xn, .string xi, .string xf], .int .i64 3]) ∧ Below w.heap.size w w' := by
  have DG := Lib.hid H1
  clear H1
  go_enter Tryd.func23, Tryd.ntmps23
  go_wp2_with fail
  obtain ⟨W2, hW2⟩ : ∃ W2, W2 = (w.alloc (.cells #[.bool on, .string oi, .string oj, .string oI, .int .i64 oV, .int .i64 oW, .string oG, .string oT, .int .i64 oX] 30)).alloc (.cells #[.bool false, .string ⟨#[]⟩, .string ⟨#[]⟩] 27) := ⟨_, rfl⟩
  obtain ⟨hb2, hz2, CA, CR, FR⟩ := ops_dec w (.bool on) (.string oi) (.string oj) (.string oI) (.int .i64 oV) (.int .i64 oW) (.string oG) (.string oT) (.int .i64 oX) 30 27
  rw [← hW2] at hb2 hz2 CA CR FR ⊢
  clear hW2
  (with_reducible refine (DG.out _).mono ?_)
  rintro e W3 ⟨rfl, hb3⟩
  have ba : Below W3.heap.size W3 (W3.alloc (.cells #[.bool xn, .string xi, .string xf] 27)) := (Below.refl _ _).alloc (Nat.le_refl _) _
  have h3 : w.heap.size + 2 ≤ W3.heap.size := by have := hb3.size; omega
  have CR3 := Lib.hid ((CR.keep hb3 (by omega)).keep ba (by omega))
  have FR3 := Lib.hid (frozen_keep (frozen_keep FR hb3 (by omega)) ba (by omega))
  have B3 := Lib.hid ((hb2.trans (hb3.mono hb2.size)).trans (ba.mono (by have := hb3.size; have := hb2.size; omega)))
  obtain ⟨x0, x1, x2⟩ := (one_box W3 (.bool xn) (.string xi) (.string xf) 27).2.1
  clear hb3 hb2 CA CR FR hz2 ba
  obtain ⟨r0, r1, r2⟩ := CR3.out
  have z0 := FR3.out
  obtain ⟨e0, e1, e2⟩ := res_cells r0 r1 r2 (.bool xn) (.string xi) (.string xf)
  go_wp2
  exact bodyPost_ret (v := .tuple #[.agg #[.bool xn, .string xi, .string xf], .int .i64 3]) (by simp [results, Tryd.results23, go_sem, e0, e1, e2]) rfl ⟨rfl, res_below B3.out (by omega) _ _ _⟩

set_option maxHeartbeats 4000000 in
set_option maxRecDepth 100000 in
theorem mod_empty (on : Bool) (oi oj oI : ByteArray) (oV oW : Int) (oG oT : ByteArray) (oX : Int) (L : ByteArray) (xn : Bool) (xi xf : ByteArray)
    (H1 : ∀ wx : World, Calls Tryd.prog 42 #[.agg #[.bool on, .string oi, .string oj, .string oI, .int .i64 oV, .int .i64 oW, .string oG, .string oT, .int .i64 oX], .string L] wx fun e w' => e = .returned (.tuple #[.agg #[.bool xn, .string xi, .string xf], .int .i64 0]) ∧ Below wx.heap.size wx w') (w : World) :
    Calls Tryd.prog 23 #[.agg #[.bool on, .string oi, .string oj, .string oI, .int .i64 oV, .int .i64 oW, .string oG, .string oT, .int .i64 oX], .string L, .string ⟨#[]⟩] w fun e w' => e = .returned (.tuple #[.agg #[.bool xn, .string xi, .string xf], .int .i64 0]) ∧ Below w.heap.size w w' := by
  have DG := Lib.hid H1
  clear H1
  go_enter Tryd.func23, Tryd.ntmps23
  go_wp2_with fail
  obtain ⟨W2, hW2⟩ : ∃ W2, W2 = (w.alloc (.cells #[.bool on, .string oi, .string oj, .string oI, .int .i64 oV, .int .i64 oW, .string oG, .string oT, .int .i64 oX] 30)).alloc (.cells #[.bool false, .string ⟨#[]⟩, .string ⟨#[]⟩] 27) := ⟨_, rfl⟩
  obtain ⟨hb2, hz2, CA, CR, FR⟩ := ops_dec w (.bool on) (.string oi) (.string oj) (.string oI) (.int .i64 oV) (.int .i64 oW) (.string oG) (.string oT) (.int .i64 oX) 30 27
  rw [← hW2] at hb2 hz2 CA CR FR ⊢
  clear hW2
  (with_reducible refine (DG.out _).mono ?_)
  rintro e W3 ⟨rfl, hb3⟩
  have ba : Below W3.heap.size W3 (W3.alloc (.cells #[.bool xn, .string xi, .string xf] 27)) := (Below.refl _ _).alloc (Nat.le_refl _) _
  have h3 : w.heap.size + 2 ≤ W3.heap.size := by have := hb3.size; omega
  have CR3 := Lib.hid ((CR.keep hb3 (by omega)).keep ba (by omega))
  have FR3 := Lib.hid (frozen_keep (frozen_keep FR hb3 (by omega)) ba (by omega))
  have B3 := Lib.hid ((hb2.trans (hb3.mono hb2.size)).trans (ba.mono (by have := hb3.size; have := hb2.size; omega)))
  obtain ⟨x0, x1, x2⟩ := (one_box W3 (.bool xn) (.string xi) (.string xf) 27).2.1
  clear hb3 hb2 CA CR FR hz2 ba
  obtain ⟨r0, r1, r2⟩ := CR3.out
  have z0 := FR3.out
  obtain ⟨e0, e1, e2⟩ := res_cells r0 r1 r2 (.bool xn) (.string xi) (.string xf)
  go_wp2
  exact bodyPost_ret (v := .tuple #[.agg #[.bool xn, .string xi, .string xf], .int .i64 0]) (by simp [results, Tryd.results23, go_sem, e0, e1, e2]) rfl ⟨rfl, res_below B3.out (by omega) _ _ _⟩

set_option maxHeartbeats 4000000 in
set_option maxRecDepth 100000 in
theorem mod_rem (on : Bool) (oi oj oI : ByteArray) (oV oW : Int) (oG oT : ByteArray) (oX : Int) (L : ByteArray) (by_ : ByteArray) (hby : by_.size ≠ 0) (xn : Bool) (xi xf : ByteArray) (rn : Bool) (ri rf : ByteArray)
    (H1 : ∀ wx : World, Calls Tryd.prog 42 #[.agg #[.bool on, .string oi, .string oj, .string oI, .int .i64 oV, .int .i64 oW, .string oG, .string oT, .int .i64 oX], .string L] wx fun e w' => e = .returned (.tuple #[.agg #[.bool xn, .string xi, .string xf], .int .i64 0]) ∧ Below wx.heap.size wx w')
    (H2 : ∀ wx : World, Calls Tryd.prog 43 #[.agg #[.bool xn, .string xi, .string xf], .agg #[.bool false, .string by_, .string ⟨#[]⟩]] wx fun e w' => e = .returned (.tuple #[.agg #[.bool rn, .string ri, .string rf], .int .i64 0]) ∧ Below wx.heap.size wx w') (w : World) :
    Calls Tryd.prog 23 #[.agg #[.bool on, .string oi, .string oj, .string oI, .int .i64 oV, .int .i64 oW, .string oG, .string oT, .int .i64 oX], .string L, .string by_] w fun e w' => e = .returned (.tuple #[.agg #[.bool rn, .string ri, .string rf], .int .i64 0]) ∧ Below w.heap.size w w' := by
  have n1 : ¬ by_.toList = [] := fun h => hby (toList_nil.1 h)
  have n2 : by_.toList.isEmpty = false := by simpa using n1
  have DG := Lib.hid H1
  have DR := Lib.hid H2
  have DW := Lib.hid (whole_any by_)
  clear H1 H2 hby
  go_enter Tryd.func23, Tryd.ntmps23
  go_wp2_with fail
  obtain ⟨W2, hW2⟩ : ∃ W2, W2 = (w.alloc (.cells #[.bool on, .string oi, .string oj, .string oI, .int .i64 oV, .int .i64 oW, .string oG, .string oT, .int .i64 oX] 30)).alloc (.cells #[.bool false, .string ⟨#[]⟩, .string ⟨#[]⟩] 27) := ⟨_, rfl⟩
  obtain ⟨hb2, hz2, CA, CR, FR⟩ := ops_dec w (.bool on) (.string oi) (.string oj) (.string oI) (.int .i64 oV) (.int .i64 oW) (.string oG) (.string oT) (.int .i64 oX) 30 27
  rw [← hW2] at hb2 hz2 CA CR FR ⊢
  clear hW2
  (with_reducible refine (DG.out _).mono ?_)
  rintro e W3 ⟨rfl, hb3⟩
  have ba : Below W3.heap.size W3 (W3.alloc (.cells #[.bool xn, .string xi, .string xf] 27)) := (Below.refl _ _).alloc (Nat.le_refl _) _
  have h3 : w.heap.size + 2 ≤ W3.heap.size := by have := hb3.size; omega
  have CR3 := Lib.hid ((CR.keep hb3 (by omega)).keep ba (by omega))
  have FR3 := Lib.hid (frozen_keep (frozen_keep FR hb3 (by omega)) ba (by omega))
  have B3 := Lib.hid ((hb2.trans (hb3.mono hb2.size)).trans (ba.mono (by have := hb3.size; have := hb2.size; omega)))
  obtain ⟨x0, x1, x2⟩ := (one_box W3 (.bool xn) (.string xi) (.string xf) 27).2.1
  clear hb3 hb2 CA CR FR hz2 ba
  obtain ⟨V, hV⟩ : ∃ V, V = W3.alloc (.cells #[.bool xn, .string xi, .string xf] 27) := ⟨_, rfl⟩
  rw [← hV] at CR3 FR3 B3 x0 x1 x2
  have hz : w.heap.size + 2 ≤ V.heap.size := by rw [hV]; simp; omega
  have hz3 : W3.heap.size + 1 ≤ V.heap.size := by rw [hV]; simp
  have HX : Hid (Cells3 V W3.heap.size (.bool xn) (.string xi) (.string xf)) := ⟨x0, x1, x2⟩
  have HV := Lib.hid hV
  clear hV
  go_wp2_with fail
  rw [← HV.out]
  go_region_held3 (fun w' => w'.cell? ⟨W3.heap.size, 0, none⟩ = some (.bool xn) ∧ w'.cell? ⟨W3.heap.size, 1, none⟩ = some (.string xi) ∧ w'.cell? ⟨W3.heap.size, 2, none⟩ = some (.string xf))
    (first
      | (with_reducible exact ⟨x0, x1, x2⟩)
      | (with_reducible exact ⟨(drew_cell _ _).trans x0, (drew_cell _ _).trans x1, (drew_cell _ _).trans x2⟩)
      | (have t := HX.out.keep hR (by omega); obtain ⟨t0, t1, t2⟩ := t; with_reducible exact ⟨t0, t1, t2⟩)
      | (have t := HX.out.keep hA (by omega); obtain ⟨t0, t1, t2⟩ := t; with_reducible exact ⟨t0, t1, t2⟩)
      | (have t := HX.out.keep hR (by omega); obtain ⟨t0, t1, t2⟩ := t; have sA := hA.size; with_reducible exact ⟨(drew_cell _ _).trans ((far3 _ _ _ _ _ _ _ (by omega)).trans t0), (drew_cell _ _).trans ((far3 _ _ _ _ _ _ _ (by omega)).trans t1), (drew_cell _ _).trans ((far3 _ _ _ _ _ _ _ (by omega)).trans t2)⟩)
      | (have t := HX.out.keep hR (by omega); obtain ⟨t0, t1, t2⟩ := t; have sA := hA.size; with_reducible exact ⟨(far3 _ _ _ _ _ _ _ (by omega)).trans t0, (far3 _ _ _ _ _ _ _ (by omega)).trans t1, (far3 _ _ _ _ _ _ _ (by omega)).trans t2⟩)
      | (have t := HX.out.keep hR (by omega); obtain ⟨t0, t1, t2⟩ := t; have sR := hR.size; with_reducible exact ⟨(alloc_far _ _ _ _ (by omega)).trans t0, (alloc_far _ _ _ _ (by omega)).trans t1, (alloc_far _ _ _ _ (by omega)).trans t2⟩)
      | go_keep)
    (first
      | (go_at_call 44; (with_reducible refine (DW.out _).mono ?_); rintro e wA ⟨rfl, hbA⟩
         have hA : Below V.heap.size V wA := below_via hbA (by first | exact drew1 (Below.refl _ _) | exact (drew1 (Below.refl _ _)).alloc (Nat.le_refl _) _ | exact drew1 ((Below.refl _ _).alloc (Nat.le_refl _) _))
         first
           | (have kC : Cells3 wA V.heap.size (.bool false) (.string ⟨#[]⟩) (.string ⟨#[]⟩) := ⟨(hbA.cell (p := ⟨V.heap.size, 0, none⟩) (by simp)).trans (by simp), (hbA.cell (p := ⟨V.heap.size, 1, none⟩) (by simp)).trans (by simp), (hbA.cell (p := ⟨V.heap.size, 2, none⟩) (by simp)).trans (by simp)⟩
              have fC : ∀ i, wA.frozen? ⟨V.heap.size, i, none⟩ = false := fun i => (hbA.frozen (p := ⟨V.heap.size, i, none⟩) (by simp)).trans (by simp)
              have sC : V.heap.size + 1 ≤ wA.heap.size := by have := hbA.size; simp at this; omega)
           | skip)
      | (go_at_call 43; (with_reducible refine (DR.out _).mono ?_); rintro e wR ⟨rfl, hbR⟩
         have hR : Below V.heap.size V wR := by first | exact hA.trans (hbR.mono hA.size) | exact (hA.alloc hA.size _).trans (hbR.mono (by have := hA.size; simp; omega))
         first
           | (obtain ⟨k0, k1, k2⟩ := kC.keep hbR (by omega)
              have kF := frozen_keep fC hbR (by omega))
           | (have k0 : wR.cell? ⟨wA.heap.size, 0, none⟩ = some (.bool false) := (hbR.cell (p := ⟨wA.heap.size, 0, none⟩) (by simp)).trans (by simp)
              have k1 : wR.cell? ⟨wA.heap.size, 1, none⟩ = some (.string ⟨#[]⟩) := (hbR.cell (p := ⟨wA.heap.size, 1, none⟩) (by simp)).trans (by simp)
              have k2 : wR.cell? ⟨wA.heap.size, 2, none⟩ = some (.string ⟨#[]⟩) := (hbR.cell (p := ⟨wA.heap.size, 2, none⟩) (by simp)).trans (by simp)
              have kF : ∀ i, wR.frozen? ⟨wA.heap.size, i, none⟩ = false := fun i => (hbR.frozen (p := ⟨wA.heap.size, i, none⟩) (by simp)).trans (by simp))
           | skip))
  · obtain ⟨F, hF⟩ : ∃ F, F = wR.alloc (.cells #[.bool rn, .string ri, .string rf] 27) := ⟨_, rfl⟩
    rw [← hF]
    have sA := hA.size
    have sR := hR.size
    have t := CR3.out.keep hR (by omega)
    have ff := frozen_keep FR3.out hR (by omega)
    have bR := B3.out.trans (hR.mono B3.out.size)
    have tF : Cells3 F (w.heap.size + 1) (.bool false) (.string ⟨#[]⟩) (.string ⟨#[]⟩) := by rw [hF]; exact t.keep ((Below.refl _ _).alloc (Nat.le_refl _) _) (by omega)
    have fF : ∀ i, F.frozen? ⟨w.heap.size + 1, i, none⟩ = false := by rw [hF]; exact frozen_keep ff ((Below.refl _ _).alloc (Nat.le_refl _) _) (by omega)
    have kF2 : Cells3 F wR.heap.size (.bool rn) (.string ri) (.string rf) := by rw [hF]; exact (one_box _ _ _ _ _).2.1
    have bF := Lib.hid (show Below w.heap.size w F by rw [hF]; exact bR.alloc (by have := bR.size; omega) _)
    clear hF t ff bR hbA hbR hA hR x0 x1 x2
    obtain ⟨f0, f1, f2⟩ := kF2
    obtain ⟨r0, r1, r2⟩ := tF
    have z0 := fF
    obtain ⟨e0, e1, e2⟩ := res_cells r0 r1 r2 (.bool rn) (.string ri) (.string rf)
    clear fF
    go_wp2
    exact bodyPost_ret (v := .tuple #[.agg #[.bool rn, .string ri, .string rf], .int .i64 0]) (by simp [results, Tryd.results23, go_sem, e0, e1, e2]) rfl ⟨rfl, res_below bF.out (by omega) _ _ _⟩
  · obtain ⟨F, hF⟩ : ∃ F, F = ((wR.setCell ⟨wA.heap.size, 0, none⟩ (.bool rn)).setCell ⟨wA.heap.size, 1, none⟩ (.string ri)).setCell ⟨wA.heap.size, 2, none⟩ (.string rf) := ⟨_, rfl⟩
    rw [← hF]
    have sA := hA.size
    have sR := hR.size
    have t := CR3.out.keep hR (by omega)
    have ff := frozen_keep FR3.out hR (by omega)
    have bR := B3.out.trans (hR.mono B3.out.size)
    have tF : Cells3 F (w.heap.size + 1) (.bool false) (.string ⟨#[]⟩) (.string ⟨#[]⟩) := by rw [hF]; exact ⟨(far3 _ _ _ _ _ _ _ (by omega)).trans t.1, (far3 _ _ _ _ _ _ _ (by omega)).trans t.2.1, (far3 _ _ _ _ _ _ _ (by omega)).trans t.2.2⟩
    have fF : ∀ i, F.frozen? ⟨w.heap.size + 1, i, none⟩ = false := by rw [hF]; intro i; simpa using ff i
    have kF2 : Cells3 F wA.heap.size (.bool rn) (.string ri) (.string rf) := by rw [hF]; obtain ⟨e0, e1, e2⟩ := res_cells k0 k1 k2 (.bool rn) (.string ri) (.string rf); exact ⟨cell_set_far _ _ _ _ _ _ (by decide) (cell_set_far _ _ _ _ _ _ (by decide) e0), cell_set_far _ _ _ _ _ _ (by decide) e1, e2⟩
    have bF := Lib.hid (show Below w.heap.size w F by rw [hF]; exact res_below bR (by omega) _ _ _)
    clear k0 k1 k2 kF
    clear hF t ff bR hbA hbR hA hR x0 x1 x2
    obtain ⟨f0, f1, f2⟩ := kF2
    obtain ⟨r0, r1, r2⟩ := tF
    have z0 := fF
    obtain ⟨e0, e1, e2⟩ := res_cells r0 r1 r2 (.bool rn) (.string ri) (.string rf)
    clear fF
    go_wp2
    exact bodyPost_ret (v := .tuple #[.agg #[.bool rn, .string ri, .string rf], .int .i64 0]) (by simp [results, Tryd.results23, go_sem, e0, e1, e2]) rfl ⟨rfl, res_below bF.out (by omega) _ _ _⟩
  · obtain ⟨F, hF⟩ : ∃ F, F = ((wR.setCell ⟨V.heap.size, 0, none⟩ (.bool rn)).setCell ⟨V.heap.size, 1, none⟩ (.string ri)).setCell ⟨V.heap.size, 2, none⟩ (.string rf) := ⟨_, rfl⟩
    rw [← hF]
    have sA := hA.size
    have sR := hR.size
    have t := CR3.out.keep hR (by omega)
    have ff := frozen_keep FR3.out hR (by omega)
    have bR := B3.out.trans (hR.mono B3.out.size)
    have tF : Cells3 F (w.heap.size + 1) (.bool false) (.string ⟨#[]⟩) (.string ⟨#[]⟩) := by rw [hF]; exact ⟨(far3 _ _ _ _ _ _ _ (by omega)).trans t.1, (far3 _ _ _ _ _ _ _ (by omega)).trans t.2.1, (far3 _ _ _ _ _ _ _ (by omega)).trans t.2.2⟩
    have fF : ∀ i, F.frozen? ⟨w.heap.size + 1, i, none⟩ = false := by rw [hF]; intro i; simpa using ff i
    have kF2 : Cells3 F V.heap.size (.bool rn) (.string ri) (.string rf) := by rw [hF]; obtain ⟨e0, e1, e2⟩ := res_cells k0 k1 k2 (.bool rn) (.string ri) (.string rf); exact ⟨cell_set_far _ _ _ _ _ _ (by decide) (cell_set_far _ _ _ _ _ _ (by decide) e0), cell_set_far _ _ _ _ _ _ (by decide) e1, e2⟩
    have bF := Lib.hid (show Below w.heap.size w F by rw [hF]; exact res_below bR (by omega) _ _ _)
    clear k0 k1 k2 kF
    clear hF t ff bR hbA hbR hA hR x0 x1 x2
    obtain ⟨f0, f1, f2⟩ := kF2
    obtain ⟨r0, r1, r2⟩ := tF
    have z0 := fF
    obtain ⟨e0, e1, e2⟩ := res_cells r0 r1 r2 (.bool rn) (.string ri) (.string rf)
    clear fF
    go_wp2
    exact bodyPost_ret (v := .tuple #[.agg #[.bool rn, .string ri, .string rf], .int .i64 0]) (by simp [results, Tryd.results23, go_sem, e0, e1, e2]) rfl ⟨rfl, res_below bF.out (by omega) _ _ _⟩

set_option maxHeartbeats 4000000 in
set_option maxRecDepth 100000 in
theorem mod_bad20 (on : Bool) (oi oj oI : ByteArray) (oV oW : Int) (oG oT : ByteArray) (oX : Int) (L : ByteArray) (by_ : ByteArray) (hby : by_.size ≠ 0) (xn : Bool) (xi xf : ByteArray)
    (H1 : ∀ wx : World, Calls Tryd.prog 42 #[.agg #[.bool on, .string oi, .string oj, .string oI, .int .i64 oV, .int .i64 oW, .string oG, .string oT, .int .i64 oX], .string L] wx fun e w' => e = .returned (.tuple #[.agg #[.bool xn, .string xi, .string xf], .int .i64 0]) ∧ Below wx.heap.size wx w')
    (H2 : ∀ wx : World, Calls Tryd.prog 43 #[.agg #[.bool xn, .string xi, .string xf], .agg #[.bool false, .string by_, .string ⟨#[]⟩]] wx fun e w' => e = .returned (.tuple #[.agg #[.bool false, .string ⟨#[]⟩, .string ⟨#[]⟩], .int .i64 20]) ∧ Below wx.heap.size wx w') (w : World) :
    Calls Tryd.prog 23 #[.agg #[.bool on, .string oi, .string oj, .string oI, .int .i64 oV, .int .i64 oW, .string oG, .string oT, .int .i64 oX], .string L, .string by_] w fun e w' => e = .returned (.tuple #[.agg #[.bool false, .string ⟨#[]⟩, .string ⟨#[]⟩], .int .i64 40]) ∧ Below w.heap.size w w' := by
  have n1 : ¬ by_.toList = [] := fun h => hby (toList_nil.1 h)
  have n2 : by_.toList.isEmpty = false := by simpa using n1
  have DG := Lib.hid H1
  have DR := Lib.hid H2
  have DW := Lib.hid (whole_any by_)
  clear H1 H2 hby
  go_enter Tryd.func23, Tryd.ntmps23
  go_wp2_with fail
  obtain ⟨W2, hW2⟩ : ∃ W2, W2 = (w.alloc (.cells #[.bool on, .string oi, .string oj, .string oI, .int .i64 oV, .int .i64 oW, .string oG, .string oT, .int .i64 oX] 30)).alloc (.cells #[.bool false, .string ⟨#[]⟩, .string ⟨#[]⟩] 27) := ⟨_, rfl⟩
  obtain ⟨hb2, hz2, CA, CR, FR⟩ := ops_dec w (.bool on) (.string oi) (.string oj) (.string oI) (.int .i64 oV) (.int .i64 oW) (.string oG) (.string oT) (.int .i64 oX) 30 27
  rw [← hW2] at hb2 hz2 CA CR FR ⊢
  clear hW2
  (with_reducible refine (DG.out _).mono ?_)
  rintro e W3 ⟨rfl, hb3⟩
  have ba : Below W3.heap.size W3 (W3.alloc (.cells #[.bool xn, .string xi, .string xf] 27)) := (Below.refl _ _).alloc (Nat.le_refl _) _
  have h3 : w.heap.size + 2 ≤ W3.heap.size := by have := hb3.size; omega
  have CR3 := Lib.hid ((CR.keep hb3 (by omega)).keep ba (by omega))
  have FR3 := Lib.hid (frozen_keep (frozen_keep FR hb3 (by omega)) ba (by omega))
  have B3 := Lib.hid ((hb2.trans (hb3.mono hb2.size)).trans (ba.mono (by have := hb3.size; have := hb2.size; omega)))
  obtain ⟨x0, x1, x2⟩ := (one_box W3 (.bool xn) (.string xi) (.string xf) 27).2.1
  clear hb3 hb2 CA CR FR hz2 ba
  obtain ⟨V, hV⟩ : ∃ V, V = W3.alloc (.cells #[.bool xn, .string xi, .string xf] 27) := ⟨_, rfl⟩
  rw [← hV] at CR3 FR3 B3 x0 x1 x2
  have hz : w.heap.size + 2 ≤ V.heap.size := by rw [hV]; simp; omega
  have hz3 : W3.heap.size + 1 ≤ V.heap.size := by rw [hV]; simp
  have HX : Hid (Cells3 V W3.heap.size (.bool xn) (.string xi) (.string xf)) := ⟨x0, x1, x2⟩
  have HV := Lib.hid hV
  clear hV
  go_wp2_with fail
  rw [← HV.out]
  go_region_held3 (fun w' => w'.cell? ⟨W3.heap.size, 0, none⟩ = some (.bool xn) ∧ w'.cell? ⟨W3.heap.size, 1, none⟩ = some (.string xi) ∧ w'.cell? ⟨W3.heap.size, 2, none⟩ = some (.string xf))
    (first
      | (with_reducible exact ⟨x0, x1, x2⟩)
      | (with_reducible exact ⟨(drew_cell _ _).trans x0, (drew_cell _ _).trans x1, (drew_cell _ _).trans x2⟩)
      | (have t := HX.out.keep hR (by omega); obtain ⟨t0, t1, t2⟩ := t; with_reducible exact ⟨t0, t1, t2⟩)
      | (have t := HX.out.keep hA (by omega); obtain ⟨t0, t1, t2⟩ := t; with_reducible exact ⟨t0, t1, t2⟩)
      | (have t := HX.out.keep hR (by omega); obtain ⟨t0, t1, t2⟩ := t; have sA := hA.size; with_reducible exact ⟨(drew_cell _ _).trans ((far3 _ _ _ _ _ _ _ (by omega)).trans t0), (drew_cell _ _).trans ((far3 _ _ _ _ _ _ _ (by omega)).trans t1), (drew_cell _ _).trans ((far3 _ _ _ _ _ _ _ (by omega)).trans t2)⟩)
      | (have t := HX.out.keep hR (by omega); obtain ⟨t0, t1, t2⟩ := t; have sA := hA.size; with_reducible exact ⟨(far3 _ _ _ _ _ _ _ (by omega)).trans t0, (far3 _ _ _ _ _ _ _ (by omega)).trans t1, (far3 _ _ _ _ _ _ _ (by omega)).trans t2⟩)
      | (have t := HX.out.keep hR (by omega); obtain ⟨t0, t1, t2⟩ := t; have sR := hR.size; with_reducible exact ⟨(alloc_far _ _ _ _ (by omega)).trans t0, (alloc_far _ _ _ _ (by omega)).trans t1, (alloc_far _ _ _ _ (by omega)).trans t2⟩)
      | go_keep)
    (first
      | (go_at_call 44; (with_reducible refine (DW.out _).mono ?_); rintro e wA ⟨rfl, hbA⟩
         have hA : Below V.heap.size V wA := below_via hbA (by first | exact drew1 (Below.refl _ _) | exact (drew1 (Below.refl _ _)).alloc (Nat.le_refl _) _ | exact drew1 ((Below.refl _ _).alloc (Nat.le_refl _) _))
         first
           | (have kC : Cells3 wA V.heap.size (.bool false) (.string ⟨#[]⟩) (.string ⟨#[]⟩) := ⟨(hbA.cell (p := ⟨V.heap.size, 0, none⟩) (by simp)).trans (by simp), (hbA.cell (p := ⟨V.heap.size, 1, none⟩) (by simp)).trans (by simp), (hbA.cell (p := ⟨V.heap.size, 2, none⟩) (by simp)).trans (by simp)⟩
              have fC : ∀ i, wA.frozen? ⟨V.heap.size, i, none⟩ = false := fun i => (hbA.frozen (p := ⟨V.heap.size, i, none⟩) (by simp)).trans (by simp)
              have sC : V.heap.size + 1 ≤ wA.heap.size := by have := hbA.size; simp at this; omega)
           | skip)
      | (go_at_call 43; (with_reducible refine (DR.out _).mono ?_); rintro e wR ⟨rfl, hbR⟩
         have hR : Below V.heap.size V wR := by first | exact hA.trans (hbR.mono hA.size) | exact (hA.alloc hA.size _).trans (hbR.mono (by have := hA.size; simp; omega))
         first
           | (obtain ⟨k0, k1, k2⟩ := kC.keep hbR (by omega)
              have kF := frozen_keep fC hbR (by omega))
           | (have k0 : wR.cell? ⟨wA.heap.size, 0, none⟩ = some (.bool false) := (hbR.cell (p := ⟨wA.heap.size, 0, none⟩) (by simp)).trans (by simp)
              have k1 : wR.cell? ⟨wA.heap.size, 1, none⟩ = some (.string ⟨#[]⟩) := (hbR.cell (p := ⟨wA.heap.size, 1, none⟩) (by simp)).trans (by simp)
              have k2 : wR.cell? ⟨wA.heap.size, 2, none⟩ = some (.string ⟨#[]⟩) := (hbR.cell (p := ⟨wA.heap.size, 2, none⟩) (by simp)).trans (by simp)
              have kF : ∀ i, wR.frozen? ⟨wA.heap.size, i, none⟩ = false := fun i => (hbR.frozen (p := ⟨wA.heap.size, i, none⟩) (by simp)).trans (by simp))
           | skip))
  · obtain ⟨F, hF⟩ : ∃ F, F = wR.alloc (.cells #[.bool false, .string ⟨#[]⟩, .string ⟨#[]⟩] 27) := ⟨_, rfl⟩
    rw [← hF]
    have sA := hA.size
    have sR := hR.size
    have t := CR3.out.keep hR (by omega)
    have ff := frozen_keep FR3.out hR (by omega)
    have bR := B3.out.trans (hR.mono B3.out.size)
    have tF : Cells3 F (w.heap.size + 1) (.bool false) (.string ⟨#[]⟩) (.string ⟨#[]⟩) := by rw [hF]; exact t.keep ((Below.refl _ _).alloc (Nat.le_refl _) _) (by omega)
    have fF : ∀ i, F.frozen? ⟨w.heap.size + 1, i, none⟩ = false := by rw [hF]; exact frozen_keep ff ((Below.refl _ _).alloc (Nat.le_refl _) _) (by omega)
    have kF2 : Cells3 F wR.heap.size (.bool false) (.string ⟨#[]⟩) (.string ⟨#[]⟩) := by rw [hF]; exact (one_box _ _ _ _ _).2.1
    have bF := Lib.hid (show Below w.heap.size w F by rw [hF]; exact bR.alloc (by have := bR.size; omega) _)
    clear hF t ff bR hbA hbR hA hR x0 x1 x2
    obtain ⟨f0, f1, f2⟩ := kF2
    obtain ⟨r0, r1, r2⟩ := tF
    have z0 := fF
    obtain ⟨e0, e1, e2⟩ := res_cells r0 r1 r2 (.bool false) (.string ⟨#[]⟩) (.string ⟨#[]⟩)
    clear fF
    go_wp2
    exact bodyPost_ret (v := .tuple #[.agg #[.bool false, .string ⟨#[]⟩, .string ⟨#[]⟩], .int .i64 40]) (by simp [results, Tryd.results23, go_sem, e0, e1, e2]) rfl ⟨rfl, res_below bF.out (by omega) _ _ _⟩
  · obtain ⟨F, hF⟩ : ∃ F, F = ((wR.setCell ⟨wA.heap.size, 0, none⟩ (.bool false)).setCell ⟨wA.heap.size, 1, none⟩ (.string ⟨#[]⟩)).setCell ⟨wA.heap.size, 2, none⟩ (.string ⟨#[]⟩) := ⟨_, rfl⟩
    rw [← hF]
    have sA := hA.size
    have sR := hR.size
    have t := CR3.out.keep hR (by omega)
    have ff := frozen_keep FR3.out hR (by omega)
    have bR := B3.out.trans (hR.mono B3.out.size)
    have tF : Cells3 F (w.heap.size + 1) (.bool false) (.string ⟨#[]⟩) (.string ⟨#[]⟩) := by rw [hF]; exact ⟨(far3 _ _ _ _ _ _ _ (by omega)).trans t.1, (far3 _ _ _ _ _ _ _ (by omega)).trans t.2.1, (far3 _ _ _ _ _ _ _ (by omega)).trans t.2.2⟩
    have fF : ∀ i, F.frozen? ⟨w.heap.size + 1, i, none⟩ = false := by rw [hF]; intro i; simpa using ff i
    have kF2 : Cells3 F wA.heap.size (.bool false) (.string ⟨#[]⟩) (.string ⟨#[]⟩) := by rw [hF]; obtain ⟨e0, e1, e2⟩ := res_cells k0 k1 k2 (.bool false) (.string ⟨#[]⟩) (.string ⟨#[]⟩); exact ⟨cell_set_far _ _ _ _ _ _ (by decide) (cell_set_far _ _ _ _ _ _ (by decide) e0), cell_set_far _ _ _ _ _ _ (by decide) e1, e2⟩
    have bF := Lib.hid (show Below w.heap.size w F by rw [hF]; exact res_below bR (by omega) _ _ _)
    clear k0 k1 k2 kF
    clear hF t ff bR hbA hbR hA hR x0 x1 x2
    obtain ⟨f0, f1, f2⟩ := kF2
    obtain ⟨r0, r1, r2⟩ := tF
    have z0 := fF
    obtain ⟨e0, e1, e2⟩ := res_cells r0 r1 r2 (.bool false) (.string ⟨#[]⟩) (.string ⟨#[]⟩)
    clear fF
    go_wp2
    exact bodyPost_ret (v := .tuple #[.agg #[.bool false, .string ⟨#[]⟩, .string ⟨#[]⟩], .int .i64 40]) (by simp [results, Tryd.results23, go_sem, e0, e1, e2]) rfl ⟨rfl, res_below bF.out (by omega) _ _ _⟩
  · obtain ⟨F, hF⟩ : ∃ F, F = ((wR.setCell ⟨V.heap.size, 0, none⟩ (.bool false)).setCell ⟨V.heap.size, 1, none⟩ (.string ⟨#[]⟩)).setCell ⟨V.heap.size, 2, none⟩ (.string ⟨#[]⟩) := ⟨_, rfl⟩
    rw [← hF]
    have sA := hA.size
    have sR := hR.size
    have t := CR3.out.keep hR (by omega)
    have ff := frozen_keep FR3.out hR (by omega)
    have bR := B3.out.trans (hR.mono B3.out.size)
    have tF : Cells3 F (w.heap.size + 1) (.bool false) (.string ⟨#[]⟩) (.string ⟨#[]⟩) := by rw [hF]; exact ⟨(far3 _ _ _ _ _ _ _ (by omega)).trans t.1, (far3 _ _ _ _ _ _ _ (by omega)).trans t.2.1, (far3 _ _ _ _ _ _ _ (by omega)).trans t.2.2⟩
    have fF : ∀ i, F.frozen? ⟨w.heap.size + 1, i, none⟩ = false := by rw [hF]; intro i; simpa using ff i
    have kF2 : Cells3 F V.heap.size (.bool false) (.string ⟨#[]⟩) (.string ⟨#[]⟩) := by rw [hF]; obtain ⟨e0, e1, e2⟩ := res_cells k0 k1 k2 (.bool false) (.string ⟨#[]⟩) (.string ⟨#[]⟩); exact ⟨cell_set_far _ _ _ _ _ _ (by decide) (cell_set_far _ _ _ _ _ _ (by decide) e0), cell_set_far _ _ _ _ _ _ (by decide) e1, e2⟩
    have bF := Lib.hid (show Below w.heap.size w F by rw [hF]; exact res_below bR (by omega) _ _ _)
    clear k0 k1 k2 kF
    clear hF t ff bR hbA hbR hA hR x0 x1 x2
    obtain ⟨f0, f1, f2⟩ := kF2
    obtain ⟨r0, r1, r2⟩ := tF
    have z0 := fF
    obtain ⟨e0, e1, e2⟩ := res_cells r0 r1 r2 (.bool false) (.string ⟨#[]⟩) (.string ⟨#[]⟩)
    clear fF
    go_wp2
    exact bodyPost_ret (v := .tuple #[.agg #[.bool false, .string ⟨#[]⟩, .string ⟨#[]⟩], .int .i64 40]) (by simp [results, Tryd.results23, go_sem, e0, e1, e2]) rfl ⟨rfl, res_below bF.out (by omega) _ _ _⟩

set_option maxHeartbeats 4000000 in
set_option maxRecDepth 100000 in
theorem mod_bad21 (on : Bool) (oi oj oI : ByteArray) (oV oW : Int) (oG oT : ByteArray) (oX : Int) (L : ByteArray) (by_ : ByteArray) (hby : by_.size ≠ 0) (xn : Bool) (xi xf : ByteArray)
    (H1 : ∀ wx : World, Calls Tryd.prog 42 #[.agg #[.bool on, .string oi, .string oj, .string oI, .int .i64 oV, .int .i64 oW, .string oG, .string oT, .int .i64 oX], .string L] wx fun e w' => e = .returned (.tuple #[.agg #[.bool xn, .string xi, .string xf], .int .i64 0]) ∧ Below wx.heap.size wx w')
    (H2 : ∀ wx : World, Calls Tryd.prog 43 #[.agg #[.bool xn, .string xi, .string xf], .agg #[.bool false, .string by_, .string ⟨#[]⟩]] wx fun e w' => e = .returned (.tuple #[.agg #[.bool false, .string ⟨#[]⟩, .string ⟨#[]⟩], .int .i64 21]) ∧ Below wx.heap.size wx w') (w : World) :
    Calls Tryd.prog 23 #[.agg #[.bool on, .string oi, .string oj, .string oI, .int .i64 oV, .int .i64 oW, .string oG, .string oT, .int .i64 oX], .string L, .string by_] w fun e w' => e = .returned (.tuple #[.agg #[.bool false, .string ⟨#[]⟩, .string ⟨#[]⟩], .int .i64 40]) ∧ Below w.heap.size w w' := by
  have n1 : ¬ by_.toList = [] := fun h => hby (toList_nil.1 h)
  have n2 : by_.toList.isEmpty = false := by simpa using n1
  have DG := Lib.hid H1
  have DR := Lib.hid H2
  have DW := Lib.hid (whole_any by_)
  clear H1 H2 hby
  go_enter Tryd.func23, Tryd.ntmps23
  go_wp2_with fail
  obtain ⟨W2, hW2⟩ : ∃ W2, W2 = (w.alloc (.cells #[.bool on, .string oi, .string oj, .string oI, .int .i64 oV, .int .i64 oW, .string oG, .string oT, .int .i64 oX] 30)).alloc (.cells #[.bool false, .string ⟨#[]⟩, .string ⟨#[]⟩] 27) := ⟨_, rfl⟩
  obtain ⟨hb2, hz2, CA, CR, FR⟩ := ops_dec w (.bool on) (.string oi) (.string oj) (.string oI) (.int .i64 oV) (.int .i64 oW) (.string oG) (.string oT) (.int .i64 oX) 30 27
  rw [← hW2] at hb2 hz2 CA CR FR ⊢
  clear hW2
  (with_reducible refine (DG.out _).mono ?_)
  rintro e W3 ⟨rfl, hb3⟩
  have ba : Below W3.heap.size W3 (W3.alloc (.cells #[.bool xn, .string xi, .string xf] 27)) := (Below.refl _ _).alloc (Nat.le_refl _) _
  have h3 : w.heap.size + 2 ≤ W3.heap.size := by have := hb3.size; omega
  have CR3 := Lib.hid ((CR.keep hb3 (by omega)).keep ba (by omega))
  have FR3 := Lib.hid (frozen_keep (frozen_keep FR hb3 (by omega)) ba (by omega))
  have B3 := Lib.hid ((hb2.trans (hb3.mono hb2.size)).trans (ba.mono (by have := hb3.size; have := hb2.size; omega)))
  obtain ⟨x0, x1, x2⟩ := (one_box W3 (.bool xn) (.string xi) (.string xf) 27).2.1
  clear hb3 hb2 CA CR FR hz2 ba
  obtain ⟨V, hV⟩ : ∃ V, V = W3.alloc (.cells #[.bool xn, .string xi, .string xf] 27) := ⟨_, rfl⟩
  rw [← hV] at CR3 FR3 B3 x0 x1 x2
  have hz : w.heap.size + 2 ≤ V.heap.size := by rw [hV]; simp; omega
  have hz3 : W3.heap.size + 1 ≤ V.heap.size := by rw [hV]; simp
  have HX : Hid (Cells3 V W3.heap.size (.bool xn) (.string xi) (.string xf)) := ⟨x0, x1, x2⟩
  have HV := Lib.hid hV
  clear hV
  go_wp2_with fail
  rw [← HV.out]
  go_region_held3 (fun w' => w'.cell? ⟨W3.heap.size, 0, none⟩ = some (.bool xn) ∧ w'.cell? ⟨W3.heap.size, 1, none⟩ = some (.string xi) ∧ w'.cell? ⟨W3.heap.size, 2, none⟩ = some (.string xf))
    (first
      | (with_reducible exact ⟨x0, x1, x2⟩)
      | (with_reducible exact ⟨(drew_cell _ _).trans x0, (drew_cell _ _).trans x1, (drew_cell _ _).trans x2⟩)
      | (have t := HX.out.keep hR (by omega); obtain ⟨t0, t1, t2⟩ := t; with_reducible exact ⟨t0, t1, t2⟩)
      | (have t := HX.out.keep hA (by omega); obtain ⟨t0, t1, t2⟩ := t; with_reducible exact ⟨t0, t1, t2⟩)
      | (have t := HX.out.keep hR (by omega); obtain ⟨t0, t1, t2⟩ := t; have sA := hA.size; with_reducible exact ⟨(drew_cell _ _).trans ((far3 _ _ _ _ _ _ _ (by omega)).trans t0), (drew_cell _ _).trans ((far3 _ _ _ _ _ _ _ (by omega)).trans t1), (drew_cell _ _).trans ((far3 _ _ _ _ _ _ _ (by omega)).trans t2)⟩)
      | (have t := HX.out.keep hR (by omega); obtain ⟨t0, t1, t2⟩ := t; have sA := hA.size; with_reducible exact ⟨(far3 _ _ _ _ _ _ _ (by omega)).trans t0, (far3 _ _ _ _ _ _ _ (by omega)).trans t1, (far3 _ _ _ _ _ _ _ (by omega)).trans t2⟩)
      | (have t := HX.out.keep hR (by omega); obtain ⟨t0, t1, t2⟩ := t; have sR := hR.size; with_reducible exact ⟨(alloc_far _ _ _ _ (by omega)).trans t0, (alloc_far _ _ _ _ (by omega)).trans t1, (alloc_far _ _ _ _ (by omega)).trans t2⟩)
      | go_keep)
    (first
      | (go_at_call 44; (with_reducible refine (DW.out _).mono ?_); rintro e wA ⟨rfl, hbA⟩
         have hA : Below V.heap.size V wA := below_via hbA (by first | exact drew1 (Below.refl _ _) | exact (drew1 (Below.refl _ _)).alloc (Nat.le_refl _) _ | exact drew1 ((Below.refl _ _).alloc (Nat.le_refl _) _))
         first
           | (have kC : Cells3 wA V.heap.size (.bool false) (.string ⟨#[]⟩) (.string ⟨#[]⟩) := ⟨(hbA.cell (p := ⟨V.heap.size, 0, none⟩) (by simp)).trans (by simp), (hbA.cell (p := ⟨V.heap.size, 1, none⟩) (by simp)).trans (by simp), (hbA.cell (p := ⟨V.heap.size, 2, none⟩) (by simp)).trans (by simp)⟩
              have fC : ∀ i, wA.frozen? ⟨V.heap.size, i, none⟩ = false := fun i => (hbA.frozen (p := ⟨V.heap.size, i, none⟩) (by simp)).trans (by simp)
              have sC : V.heap.size + 1 ≤ wA.heap.size := by have := hbA.size; simp at this; omega)
           | skip)
      | (go_at_call 43; (with_reducible refine (DR.out _).mono ?_); rintro e wR ⟨rfl, hbR⟩
         have hR : Below V.heap.size V wR := by first | exact hA.trans (hbR.mono hA.size) | exact (hA.alloc hA.size _).trans (hbR.mono (by have := hA.size; simp; omega))
         first
           | (obtain ⟨k0, k1, k2⟩ := kC.keep hbR (by omega)
              have kF := frozen_keep fC hbR (by omega))
           | (have k0 : wR.cell? ⟨wA.heap.size, 0, none⟩ = some (.bool false) := (hbR.cell (p := ⟨wA.heap.size, 0, none⟩) (by simp)).trans (by simp)
              have k1 : wR.cell? ⟨wA.heap.size, 1, none⟩ = some (.string ⟨#[]⟩) := (hbR.cell (p := ⟨wA.heap.size, 1, none⟩) (by simp)).trans (by simp)
              have k2 : wR.cell? ⟨wA.heap.size, 2, none⟩ = some (.string ⟨#[]⟩) := (hbR.cell (p := ⟨wA.heap.size, 2, none⟩) (by simp)).trans (by simp)
              have kF : ∀ i, wR.frozen? ⟨wA.heap.size, i, none⟩ = false := fun i => (hbR.frozen (p := ⟨wA.heap.size, i, none⟩) (by simp)).trans (by simp))
           | skip))
  · obtain ⟨F, hF⟩ : ∃ F, F = wR.alloc (.cells #[.bool false, .string ⟨#[]⟩, .string ⟨#[]⟩] 27) := ⟨_, rfl⟩
    rw [← hF]
    have sA := hA.size
    have sR := hR.size
    have t := CR3.out.keep hR (by omega)
    have ff := frozen_keep FR3.out hR (by omega)
    have bR := B3.out.trans (hR.mono B3.out.size)
    have tF : Cells3 F (w.heap.size + 1) (.bool false) (.string ⟨#[]⟩) (.string ⟨#[]⟩) := by rw [hF]; exact t.keep ((Below.refl _ _).alloc (Nat.le_refl _) _) (by omega)
    have fF : ∀ i, F.frozen? ⟨w.heap.size + 1, i, none⟩ = false := by rw [hF]; exact frozen_keep ff ((Below.refl _ _).alloc (Nat.le_refl _) _) (by omega)
    have kF2 : Cells3 F wR.heap.size (.bool false) (.string ⟨#[]⟩) (.string ⟨#[]⟩) := by rw [hF]; exact (one_box _ _ _ _ _).2.1
    have bF := Lib.hid (show Below w.heap.size w F by rw [hF]; exact bR.alloc (by have := bR.size; omega) _)
    clear hF t ff bR hbA hbR hA hR x0 x1 x2
    obtain ⟨f0, f1, f2⟩ := kF2
    obtain ⟨r0, r1, r2⟩ := tF
    have z0 := fF
    obtain ⟨e0, e1, e2⟩ := res_cells r0 r1 r2 (.bool false) (.string ⟨#[]⟩) (.string ⟨#[]⟩)
    clear fF
    go_wp2
    exact bodyPost_ret (v := .tuple #[.agg #[.bool false, .string ⟨#[]⟩, .string ⟨#[]⟩], .int .i64 40]) (by simp [results, Tryd.results23, go_sem, e0, e1, e2]) rfl ⟨rfl, res_below bF.out (by omega) _ _ _⟩
  · obtain ⟨F, hF⟩ : ∃ F, F = ((wR.setCell ⟨wA.heap.size, 0, none⟩ (.bool false)).setCell ⟨wA.heap.size, 1, none⟩ (.string ⟨#[]⟩)).setCell ⟨wA.heap.size, 2, none⟩ (.string ⟨#[]⟩) := ⟨_, rfl⟩
    rw [← hF]
    have sA := hA.size
    have sR := hR.size
    have t := CR3.out.keep hR (by omega)
    have ff := frozen_keep FR3.out hR (by omega)
    have bR := B3.out.trans (hR.mono B3.out.size)
    have tF : Cells3 F (w.heap.size + 1) (.bool false) (.string ⟨#[]⟩) (.string ⟨#[]⟩) := by rw [hF]; exact ⟨(far3 _ _ _ _ _ _ _ (by omega)).trans t.1, (far3 _ _ _ _ _ _ _ (by omega)).trans t.2.1, (far3 _ _ _ _ _ _ _ (by omega)).trans t.2.2⟩
    have fF : ∀ i, F.frozen? ⟨w.heap.size + 1, i, none⟩ = false := by rw [hF]; intro i; simpa using ff i
    have kF2 : Cells3 F wA.heap.size (.bool false) (.string ⟨#[]⟩) (.string ⟨#[]⟩) := by rw [hF]; obtain ⟨e0, e1, e2⟩ := res_cells k0 k1 k2 (.bool false) (.string ⟨#[]⟩) (.string ⟨#[]⟩); exact ⟨cell_set_far _ _ _ _ _ _ (by decide) (cell_set_far _ _ _ _ _ _ (by decide) e0), cell_set_far _ _ _ _ _ _ (by decide) e1, e2⟩
    have bF := Lib.hid (show Below w.heap.size w F by rw [hF]; exact res_below bR (by omega) _ _ _)
    clear k0 k1 k2 kF
    clear hF t ff bR hbA hbR hA hR x0 x1 x2
    obtain ⟨f0, f1, f2⟩ := kF2
    obtain ⟨r0, r1, r2⟩ := tF
    have z0 := fF
    obtain ⟨e0, e1, e2⟩ := res_cells r0 r1 r2 (.bool false) (.string ⟨#[]⟩) (.string ⟨#[]⟩)
    clear fF
    go_wp2
    exact bodyPost_ret (v := .tuple #[.agg #[.bool false, .string ⟨#[]⟩, .string ⟨#[]⟩], .int .i64 40]) (by simp [results, Tryd.results23, go_sem, e0, e1, e2]) rfl ⟨rfl, res_below bF.out (by omega) _ _ _⟩
  · obtain ⟨F, hF⟩ : ∃ F, F = ((wR.setCell ⟨V.heap.size, 0, none⟩ (.bool false)).setCell ⟨V.heap.size, 1, none⟩ (.string ⟨#[]⟩)).setCell ⟨V.heap.size, 2, none⟩ (.string ⟨#[]⟩) := ⟨_, rfl⟩
    rw [← hF]
    have sA := hA.size
    have sR := hR.size
    have t := CR3.out.keep hR (by omega)
    have ff := frozen_keep FR3.out hR (by omega)
    have bR := B3.out.trans (hR.mono B3.out.size)
    have tF : Cells3 F (w.heap.size + 1) (.bool false) (.string ⟨#[]⟩) (.string ⟨#[]⟩) := by rw [hF]; exact ⟨(far3 _ _ _ _ _ _ _ (by omega)).trans t.1, (far3 _ _ _ _ _ _ _ (by omega)).trans t.2.1, (far3 _ _ _ _ _ _ _ (by omega)).trans t.2.2⟩
    have fF : ∀ i, F.frozen? ⟨w.heap.size + 1, i, none⟩ = false := by rw [hF]; intro i; simpa using ff i
    have kF2 : Cells3 F V.heap.size (.bool false) (.string ⟨#[]⟩) (.string ⟨#[]⟩) := by rw [hF]; obtain ⟨e0, e1, e2⟩ := res_cells k0 k1 k2 (.bool false) (.string ⟨#[]⟩) (.string ⟨#[]⟩); exact ⟨cell_set_far _ _ _ _ _ _ (by decide) (cell_set_far _ _ _ _ _ _ (by decide) e0), cell_set_far _ _ _ _ _ _ (by decide) e1, e2⟩
    have bF := Lib.hid (show Below w.heap.size w F by rw [hF]; exact res_below bR (by omega) _ _ _)
    clear k0 k1 k2 kF
    clear hF t ff bR hbA hbR hA hR x0 x1 x2
    obtain ⟨f0, f1, f2⟩ := kF2
    obtain ⟨r0, r1, r2⟩ := tF
    have z0 := fF
    obtain ⟨e0, e1, e2⟩ := res_cells r0 r1 r2 (.bool false) (.string ⟨#[]⟩) (.string ⟨#[]⟩)
    clear fF
    go_wp2
    exact bodyPost_ret (v := .tuple #[.agg #[.bool false, .string ⟨#[]⟩, .string ⟨#[]⟩], .int .i64 40]) (by simp [results, Tryd.results23, go_sem, e0, e1, e2]) rfl ⟨rfl, res_below bF.out (by omega) _ _ _⟩

end Go.Proofs.YtmggdnnffdaffaaDoor
