/- Make of the reference. -/
import Derived.Test.YtpbljcjghjbjdaaDoorDRef2
namespace Go.Proofs.YtpbljcjghjbjdaaDoor
open Go.RowKit
attribute [local go_sem ↓] Go.wp_at_zero Go.wp_at_succ

theorem zero_digs {N : Nat} : dStr (digs N) = dStr [0] ↔ N = 0 := by
  constructor
  · intro h
    have := dStr_inj (digs_digs N) (by intro x hx; simp at hx; omega) h
    have h2 := dVal_digs N
    rw [this] at h2
    exact h2.symm
  · rintro rfl
    unfold digs
    rw [digsR_small (by omega)]
    rfl
set_option maxHeartbeats 4000000 in
set_option maxRecDepth 100000 in
theorem refMake_any (neg : Bool) (l : List Nat) (scale : Nat) (w : World) (o : Option Dc) (ho : mkN neg (dVal l) scale = o) (hd : Digs l) (hl : l.length ≤ 1000000) (hs : scale ≤ 1000000) :
    Calls Tryd.prog 104 #[.bool neg, .string (dStr l), .int .i64 scale] w fun e w' => e = .returned (.tuple #[.agg #[.bool (oN o), .string (oI o), .string (oF o)], .int .i64 (oE o)]) ∧ Below w.heap.size w w' := by
  obtain ⟨N, hN⟩ : ∃ N, N = dVal l := ⟨_, rfl⟩
  obtain ⟨D, hD⟩ : ∃ D, D = digs N := ⟨_, rfl⟩
  obtain ⟨P, hP0⟩ : ∃ P, P = padTo (scale + 1) D := ⟨_, rfl⟩
  have HPd0 : P = List.replicate (scale + 1 - D.length) 0 ++ D := hP0
  have hD1 : 1 ≤ D.length := by rw [hD]; exact digs_len _
  have hDl : D.length ≤ 1000000 := by
    rw [hD]
    have := (digs_le N (max 1 l.length) (by omega)).2 (by
      rw [hN]
      exact Nat.lt_of_lt_of_le (dVal_lt hd) (Nat.pow_le_pow_right (by omega) (by omega)))
    omega
  rw [← hN, mkN_digs, ← hD, ← hP0] at ho
  have HO1 : 40 < P.length → Ending.returned (.tuple #[.agg #[.bool false, .string ⟨#[]⟩, .string ⟨#[]⟩], .int .i64 3]) = .returned (.tuple #[.agg #[.bool (oN o), .string (oI o), .string (oF o)], .int .i64 (oE o)]) := fun h => by
    rw [if_pos h] at ho
    rw [← ho]
    rfl
  have HO2 : ∀ ng : Bool, ng = (neg && decide (N ≠ 0)) → ¬ 40 < P.length → Ending.returned (.tuple #[.agg #[.bool ng, .string (dStr (P.take (P.length - scale))), .string (dStr (P.drop (P.length - scale)))], .int .i64 0]) = .returned (.tuple #[.agg #[.bool (oN o), .string (oI o), .string (oF o)], .int .i64 (oE o)]) := fun ng hng h => by
    rw [if_neg h] at ho
    rw [← ho, hng]
    rfl
  obtain ⟨S, hS⟩ : ∃ S, S = dStr D := ⟨_, rfl⟩
  have hz : S.size = D.length := by rw [hS, dStr_size]
  have DL : Hid (∀ wx : World, Calls Tryd.prog 147 #[.string (dStr l)] wx fun r w' => r = .returned (.string S) ∧ wx = w') := fun wx => by
    have := refLead_any l wx hd hl
    rw [← hN, ← hD, ← hS] at this
    exact this
  have q0 : (S.toList == [48]) = decide (N = 0) := by
    rw [Bool.eq_iff_iff, beq_iff_eq, decide_eq_true_eq, ← zero_digs, hS, hD, Lib.toList_data]
    constructor
    · intro h
      cases hx : dStr (digs N)
      rw [hx] at h
      show _ = (⟨#[48]⟩ : ByteArray)
      congr 1
      exact Array.toList_inj.1 h
    · intro h
      rw [h]
      rfl
  have HS := Lib.hid hS
  have HPX := Lib.hid hP0
  have HPd := Lib.hid HPd0
  clear ho hd hl hN hS hP0 hD HPd0
  generalize dStr l = L at *
  go_enter Tryd.func104, Tryd.ntmps104
  go_wp2_with fail
  obtain ⟨W2, hW2⟩ : ∃ W2, W2 = w.alloc (.cells #[.bool false, .string ⟨#[]⟩, .string ⟨#[]⟩] 23) := ⟨_, rfl⟩
  obtain ⟨hb2, hz2, hCR, hFR⟩ : Below w.heap.size w W2 ∧ w.heap.size + 1 ≤ W2.heap.size ∧ Cells3 W2 w.heap.size (.bool false) (.string ⟨#[]⟩) (.string ⟨#[]⟩) ∧ ∀ i, W2.frozen? ⟨w.heap.size, i, none⟩ = false := by rw [hW2]; exact ⟨(Below.refl _ w).alloc (Nat.le_refl _) _, one_box w _ _ _ _⟩
  rw [← hW2]
  have B2 := Lib.hid hb2
  have CR := Lib.hid hCR
  have FR := Lib.hid hFR
  clear hW2 hb2 hCR hFR
  (with_reducible refine (DL.out _).mono ?_)
  rintro e W9 ⟨rfl, rfl⟩
  cases neg with
  | false =>
    have HO2 := HO2 false rfl
    clear q0
    by_cases hsc : D.length ≤ scale
    · have hP : Hid (P = List.replicate (scale + 1 - D.length) 0 ++ D) := HPd.out
      have qs : (D.length : Int) ≤ (scale : Int) := by omega
      obtain ⟨S2, hS2⟩ : ∃ S2, S2 = dStr (List.replicate (scale + 1 - D.length) 0) := ⟨_, rfl⟩
      have DZ : Hid (∀ (wx : World) {nI : Int}, nI = (scale : Int) + 1 - (D.length : Int) → Calls Tryd.prog 111 #[.int .i64 nI] wx fun r w' => r = .returned (.string S2) ∧ Below wx.heap.size wx w') := fun wx nI h => by
        rw [hS2]
        exact refZeros_any (scale + 1 - D.length) nI wx (by omega) (by omega)
      obtain ⟨S3, hS3⟩ : ∃ S3, S3 = S2 ++ S := ⟨_, rfl⟩
      have HS3 : Hid (S3 = dStr P) := by show _ = _; rw [hS3, hS2, HS.out, dStr_append, hP.out]
      have hz3 : S3.size = P.length := by rw [HS3.out, dStr_size]
      have hz2b : S2.size ≤ 1000001 := by rw [hS2, dStr_size, List.length_replicate]; omega
      have hPl : P.length = scale + 1 := by rw [hP.out, List.length_append, List.length_replicate]; omega
      have h23 : S2 ++ S = S3 := hS3.symm
      clear hS2 hS3
      by_cases h40 : 40 < P.length
      · have HO := Lib.hid (HO1 h40)
        have h40i : (40 : Int) < (P.length : Int) := by omega
        clear HO1 HO2
        go_wp2_with fail
        (with_reducible refine (DZ.out _ ?_).mono ?_)
        · omega
        rintro e W3 ⟨rfl, hb3⟩
        obtain ⟨r0, r1, r2⟩ := CR.out.keep hb3 (by omega)
        have z0 := frozen_keep FR.out hb3 (by omega)
        have B3 := Lib.hid (B2.out.trans (hb3.mono B2.out.size))
        obtain ⟨e0, e1, e2⟩ := res_cells r0 r1 r2 (.bool false) (.string ⟨#[]⟩) (.string ⟨#[]⟩)
        have HBl := Lib.hid (res_below B3.out (Nat.le_refl _) (.bool false) (.string ⟨#[]⟩) (.string ⟨#[]⟩))
        clear hb3
        go_wp2
        exact bodyPost_ret (v := .tuple #[.agg #[.bool false, .string ⟨#[]⟩, .string ⟨#[]⟩], .int .i64 3]) (by simp [results, Tryd.results104, go_sem, e0, e1, e2]) rfl ⟨HO.out, HBl.out⟩
      · have HO := Lib.hid (HO2 h40)
        have h40i : (P.length : Int) ≤ 40 := by omega
        clear HO1 HO2
        go_wp2_with fail
        (with_reducible refine (DZ.out _ ?_).mono ?_)
        · omega
        rintro e W3 ⟨rfl, hb3⟩
        obtain ⟨r0, r1, r2⟩ := CR.out.keep hb3 (by omega)
        have z0 := frozen_keep FR.out hb3 (by omega)
        have B3 := Lib.hid (B2.out.trans (hb3.mono B2.out.size))
        have hz9 : w.heap.size + 1 ≤ W3.heap.size := by have := hb3.size; omega
        clear hb3
        obtain ⟨k, hk⟩ : ∃ k : Nat, k + scale = P.length := ⟨P.length - scale, by omega⟩
        have hkI : (P.length : Int) - (scale : Int) = (k : Int) := by omega
        have hkD : True := by trivial
        obtain ⟨T1, hT1⟩ : ∃ T1, T1 = S3.extract 0 1 := ⟨_, rfl⟩
        obtain ⟨T2, hT2⟩ : ∃ T2, T2 = S3.extract 1 (scale + 1) := ⟨_, rfl⟩
        have HT1 : Hid (T1 = dStr (P.take (P.length - scale))) := by show _ = _; rw [hT1, HS3.out, dStr_ext, List.drop_zero]; congr 2; omega
        have HT2 : Hid (T2 = dStr (P.drop (P.length - scale))) := by show _ = _; rw [hT2, HS3.out, dStr_ext, List.take_of_length_le (by omega)]; congr 2; omega
        have x1 := hT1.symm
        have x2 := hT2.symm
        clear hT1 hT2
        obtain ⟨e0, e1, e2⟩ := res_cells r0 r1 r2 (.bool false) (.string T1) (.string T2)
        have HBl := Lib.hid (res_below B3.out (Nat.le_refl _) (.bool false) (.string T1) (.string T2))
        go_wp2
        go_region
        go_wp2
        exact bodyPost_ret (v := .tuple #[.agg #[.bool false, .string T1, .string T2], .int .i64 0]) (by simp [results, Tryd.results104, go_sem, e0, e1, e2]) rfl ⟨by rw [HT1.out, HT2.out]; exact HO.out, HBl.out.trans ⟨rfl, rfl, rfl, Nat.le_refl _, fun _ _ => rfl⟩⟩
    · have hP : Hid (P = D) := HPX.out.trans (padTo_same (by omega))
      have qs : ¬ (D.length : Int) ≤ (scale : Int) := by omega
      have HS3 : Hid (S = dStr P) := by show _ = _; rw [HS.out, hP.out]
      have hPl : P.length = D.length := by rw [hP.out]
      by_cases h40 : 40 < P.length
      · have HO := Lib.hid (HO1 h40)
        have h40i : (40 : Int) < (D.length : Int) := by omega
        clear HO1 HO2
        obtain ⟨r0, r1, r2⟩ := CR.out
        have z0 := FR.out
        obtain ⟨e0, e1, e2⟩ := res_cells r0 r1 r2 (.bool false) (.string ⟨#[]⟩) (.string ⟨#[]⟩)
        have HBl := Lib.hid (res_below B2.out (Nat.le_refl _) (.bool false) (.string ⟨#[]⟩) (.string ⟨#[]⟩))
        go_wp2
        exact bodyPost_ret (v := .tuple #[.agg #[.bool false, .string ⟨#[]⟩, .string ⟨#[]⟩], .int .i64 3]) (by simp [results, Tryd.results104, go_sem, e0, e1, e2]) rfl ⟨HO.out, HBl.out⟩
      · have HO := Lib.hid (HO2 h40)
        have h40i : (D.length : Int) ≤ 40 := by omega
        clear HO1 HO2
        obtain ⟨r0, r1, r2⟩ := CR.out
        have z0 := FR.out
        obtain ⟨k, hk⟩ : ∃ k : Nat, k + scale = P.length := ⟨P.length - scale, by omega⟩
        have hkI : (P.length : Int) - (scale : Int) = (k : Int) := by omega
        have hkD : (D.length : Int) - (scale : Int) = (k : Int) := by omega
        obtain ⟨T1, hT1⟩ : ∃ T1, T1 = S.extract 0 k := ⟨_, rfl⟩
        obtain ⟨T2, hT2⟩ : ∃ T2, T2 = S.extract k D.length := ⟨_, rfl⟩
        have HT1 : Hid (T1 = dStr (P.take (P.length - scale))) := by show _ = _; rw [hT1, HS3.out, dStr_ext, List.drop_zero]; congr 2; omega
        have HT2 : Hid (T2 = dStr (P.drop (P.length - scale))) := by show _ = _; rw [hT2, HS3.out, dStr_ext, List.take_of_length_le (by omega)]; congr 2; omega
        have x1 := hT1.symm
        have x2 := hT2.symm
        clear hT1 hT2
        obtain ⟨e0, e1, e2⟩ := res_cells r0 r1 r2 (.bool false) (.string T1) (.string T2)
        have HBl := Lib.hid (res_below B2.out (Nat.le_refl _) (.bool false) (.string T1) (.string T2))
        go_wp2
        go_region
        go_wp2
        exact bodyPost_ret (v := .tuple #[.agg #[.bool false, .string T1, .string T2], .int .i64 0]) (by simp [results, Tryd.results104, go_sem, e0, e1, e2]) rfl ⟨by rw [HT1.out, HT2.out]; exact HO.out, HBl.out.trans ⟨rfl, rfl, rfl, Nat.le_refl _, fun _ _ => rfl⟩⟩
  | true =>
    by_cases hN0 : N = 0
    · have q1 : (S.toList == [48]) = true := q0.trans (decide_eq_true hN0)
      have HO2 := HO2 false (by rw [decide_eq_false (show ¬ N ≠ 0 by omega)]; rfl)
      clear q0 hN0
      by_cases hsc : D.length ≤ scale
      · have hP : Hid (P = List.replicate (scale + 1 - D.length) 0 ++ D) := HPd.out
        have qs : (D.length : Int) ≤ (scale : Int) := by omega
        obtain ⟨S2, hS2⟩ : ∃ S2, S2 = dStr (List.replicate (scale + 1 - D.length) 0) := ⟨_, rfl⟩
        have DZ : Hid (∀ (wx : World) {nI : Int}, nI = (scale : Int) + 1 - (D.length : Int) → Calls Tryd.prog 111 #[.int .i64 nI] wx fun r w' => r = .returned (.string S2) ∧ Below wx.heap.size wx w') := fun wx nI h => by
          rw [hS2]
          exact refZeros_any (scale + 1 - D.length) nI wx (by omega) (by omega)
        obtain ⟨S3, hS3⟩ : ∃ S3, S3 = S2 ++ S := ⟨_, rfl⟩
        have HS3 : Hid (S3 = dStr P) := by show _ = _; rw [hS3, hS2, HS.out, dStr_append, hP.out]
        have hz3 : S3.size = P.length := by rw [HS3.out, dStr_size]
        have hz2b : S2.size ≤ 1000001 := by rw [hS2, dStr_size, List.length_replicate]; omega
        have hPl : P.length = scale + 1 := by rw [hP.out, List.length_append, List.length_replicate]; omega
        have h23 : S2 ++ S = S3 := hS3.symm
        clear hS2 hS3
        by_cases h40 : 40 < P.length
        · have HO := Lib.hid (HO1 h40)
          have h40i : (40 : Int) < (P.length : Int) := by omega
          clear HO1 HO2
          go_wp2_with fail
          (with_reducible refine (DZ.out _ ?_).mono ?_)
          · omega
          rintro e W3 ⟨rfl, hb3⟩
          obtain ⟨r0, r1, r2⟩ := CR.out.keep hb3 (by omega)
          have z0 := frozen_keep FR.out hb3 (by omega)
          have B3 := Lib.hid (B2.out.trans (hb3.mono B2.out.size))
          obtain ⟨e0, e1, e2⟩ := res_cells r0 r1 r2 (.bool false) (.string ⟨#[]⟩) (.string ⟨#[]⟩)
          have HBl := Lib.hid (res_below B3.out (Nat.le_refl _) (.bool false) (.string ⟨#[]⟩) (.string ⟨#[]⟩))
          clear hb3
          go_wp2
          exact bodyPost_ret (v := .tuple #[.agg #[.bool false, .string ⟨#[]⟩, .string ⟨#[]⟩], .int .i64 3]) (by simp [results, Tryd.results104, go_sem, e0, e1, e2]) rfl ⟨HO.out, HBl.out⟩
        · have HO := Lib.hid (HO2 h40)
          have h40i : (P.length : Int) ≤ 40 := by omega
          clear HO1 HO2
          go_wp2_with fail
          (with_reducible refine (DZ.out _ ?_).mono ?_)
          · omega
          rintro e W3 ⟨rfl, hb3⟩
          obtain ⟨r0, r1, r2⟩ := CR.out.keep hb3 (by omega)
          have z0 := frozen_keep FR.out hb3 (by omega)
          have B3 := Lib.hid (B2.out.trans (hb3.mono B2.out.size))
          have hz9 : w.heap.size + 1 ≤ W3.heap.size := by have := hb3.size; omega
          clear hb3
          obtain ⟨k, hk⟩ : ∃ k : Nat, k + scale = P.length := ⟨P.length - scale, by omega⟩
          have hkI : (P.length : Int) - (scale : Int) = (k : Int) := by omega
          have hkD : True := by trivial
          obtain ⟨T1, hT1⟩ : ∃ T1, T1 = S3.extract 0 1 := ⟨_, rfl⟩
          obtain ⟨T2, hT2⟩ : ∃ T2, T2 = S3.extract 1 (scale + 1) := ⟨_, rfl⟩
          have HT1 : Hid (T1 = dStr (P.take (P.length - scale))) := by show _ = _; rw [hT1, HS3.out, dStr_ext, List.drop_zero]; congr 2; omega
          have HT2 : Hid (T2 = dStr (P.drop (P.length - scale))) := by show _ = _; rw [hT2, HS3.out, dStr_ext, List.take_of_length_le (by omega)]; congr 2; omega
          have x1 := hT1.symm
          have x2 := hT2.symm
          clear hT1 hT2
          obtain ⟨e0, e1, e2⟩ := res_cells r0 r1 r2 (.bool false) (.string T1) (.string T2)
          have HBl := Lib.hid (res_below B3.out (Nat.le_refl _) (.bool false) (.string T1) (.string T2))
          go_wp2
          go_region
          go_wp2
          exact bodyPost_ret (v := .tuple #[.agg #[.bool false, .string T1, .string T2], .int .i64 0]) (by simp [results, Tryd.results104, go_sem, e0, e1, e2]) rfl ⟨by rw [HT1.out, HT2.out]; exact HO.out, HBl.out.trans ⟨rfl, rfl, rfl, Nat.le_refl _, fun _ _ => rfl⟩⟩
      · have hP : Hid (P = D) := HPX.out.trans (padTo_same (by omega))
        have qs : ¬ (D.length : Int) ≤ (scale : Int) := by omega
        have HS3 : Hid (S = dStr P) := by show _ = _; rw [HS.out, hP.out]
        have hPl : P.length = D.length := by rw [hP.out]
        by_cases h40 : 40 < P.length
        · have HO := Lib.hid (HO1 h40)
          have h40i : (40 : Int) < (D.length : Int) := by omega
          clear HO1 HO2
          obtain ⟨r0, r1, r2⟩ := CR.out
          have z0 := FR.out
          obtain ⟨e0, e1, e2⟩ := res_cells r0 r1 r2 (.bool false) (.string ⟨#[]⟩) (.string ⟨#[]⟩)
          have HBl := Lib.hid (res_below B2.out (Nat.le_refl _) (.bool false) (.string ⟨#[]⟩) (.string ⟨#[]⟩))
          go_wp2
          exact bodyPost_ret (v := .tuple #[.agg #[.bool false, .string ⟨#[]⟩, .string ⟨#[]⟩], .int .i64 3]) (by simp [results, Tryd.results104, go_sem, e0, e1, e2]) rfl ⟨HO.out, HBl.out⟩
        · have HO := Lib.hid (HO2 h40)
          have h40i : (D.length : Int) ≤ 40 := by omega
          clear HO1 HO2
          obtain ⟨r0, r1, r2⟩ := CR.out
          have z0 := FR.out
          obtain ⟨k, hk⟩ : ∃ k : Nat, k + scale = P.length := ⟨P.length - scale, by omega⟩
          have hkI : (P.length : Int) - (scale : Int) = (k : Int) := by omega
          have hkD : (D.length : Int) - (scale : Int) = (k : Int) := by omega
          obtain ⟨T1, hT1⟩ : ∃ T1, T1 = S.extract 0 k := ⟨_, rfl⟩
          obtain ⟨T2, hT2⟩ : ∃ T2, T2 = S.extract k D.length := ⟨_, rfl⟩
          have HT1 : Hid (T1 = dStr (P.take (P.length - scale))) := by show _ = _; rw [hT1, HS3.out, dStr_ext, List.drop_zero]; congr 2; omega
          have HT2 : Hid (T2 = dStr (P.drop (P.length - scale))) := by show _ = _; rw [hT2, HS3.out, dStr_ext, List.take_of_length_le (by omega)]; congr 2; omega
          have x1 := hT1.symm
          have x2 := hT2.symm
          clear hT1 hT2
          obtain ⟨e0, e1, e2⟩ := res_cells r0 r1 r2 (.bool false) (.string T1) (.string T2)
          have HBl := Lib.hid (res_below B2.out (Nat.le_refl _) (.bool false) (.string T1) (.string T2))
          go_wp2
          go_region
          go_wp2
          exact bodyPost_ret (v := .tuple #[.agg #[.bool false, .string T1, .string T2], .int .i64 0]) (by simp [results, Tryd.results104, go_sem, e0, e1, e2]) rfl ⟨by rw [HT1.out, HT2.out]; exact HO.out, HBl.out.trans ⟨rfl, rfl, rfl, Nat.le_refl _, fun _ _ => rfl⟩⟩
    · have q1 : (S.toList == [48]) = false := q0.trans (decide_eq_false hN0)
      have HO2 := HO2 true (by rw [decide_eq_true (show N ≠ 0 from hN0)]; rfl)
      clear q0 hN0
      by_cases hsc : D.length ≤ scale
      · have hP : Hid (P = List.replicate (scale + 1 - D.length) 0 ++ D) := HPd.out
        have qs : (D.length : Int) ≤ (scale : Int) := by omega
        obtain ⟨S2, hS2⟩ : ∃ S2, S2 = dStr (List.replicate (scale + 1 - D.length) 0) := ⟨_, rfl⟩
        have DZ : Hid (∀ (wx : World) {nI : Int}, nI = (scale : Int) + 1 - (D.length : Int) → Calls Tryd.prog 111 #[.int .i64 nI] wx fun r w' => r = .returned (.string S2) ∧ Below wx.heap.size wx w') := fun wx nI h => by
          rw [hS2]
          exact refZeros_any (scale + 1 - D.length) nI wx (by omega) (by omega)
        obtain ⟨S3, hS3⟩ : ∃ S3, S3 = S2 ++ S := ⟨_, rfl⟩
        have HS3 : Hid (S3 = dStr P) := by show _ = _; rw [hS3, hS2, HS.out, dStr_append, hP.out]
        have hz3 : S3.size = P.length := by rw [HS3.out, dStr_size]
        have hz2b : S2.size ≤ 1000001 := by rw [hS2, dStr_size, List.length_replicate]; omega
        have hPl : P.length = scale + 1 := by rw [hP.out, List.length_append, List.length_replicate]; omega
        have h23 : S2 ++ S = S3 := hS3.symm
        clear hS2 hS3
        by_cases h40 : 40 < P.length
        · have HO := Lib.hid (HO1 h40)
          have h40i : (40 : Int) < (P.length : Int) := by omega
          clear HO1 HO2
          go_wp2_with fail
          (with_reducible refine (DZ.out _ ?_).mono ?_)
          · omega
          rintro e W3 ⟨rfl, hb3⟩
          obtain ⟨r0, r1, r2⟩ := CR.out.keep hb3 (by omega)
          have z0 := frozen_keep FR.out hb3 (by omega)
          have B3 := Lib.hid (B2.out.trans (hb3.mono B2.out.size))
          obtain ⟨e0, e1, e2⟩ := res_cells r0 r1 r2 (.bool false) (.string ⟨#[]⟩) (.string ⟨#[]⟩)
          have HBl := Lib.hid (res_below B3.out (Nat.le_refl _) (.bool false) (.string ⟨#[]⟩) (.string ⟨#[]⟩))
          clear hb3
          go_wp2
          exact bodyPost_ret (v := .tuple #[.agg #[.bool false, .string ⟨#[]⟩, .string ⟨#[]⟩], .int .i64 3]) (by simp [results, Tryd.results104, go_sem, e0, e1, e2]) rfl ⟨HO.out, HBl.out⟩
        · have HO := Lib.hid (HO2 h40)
          have h40i : (P.length : Int) ≤ 40 := by omega
          clear HO1 HO2
          go_wp2_with fail
          (with_reducible refine (DZ.out _ ?_).mono ?_)
          · omega
          rintro e W3 ⟨rfl, hb3⟩
          obtain ⟨r0, r1, r2⟩ := CR.out.keep hb3 (by omega)
          have z0 := frozen_keep FR.out hb3 (by omega)
          have B3 := Lib.hid (B2.out.trans (hb3.mono B2.out.size))
          have hz9 : w.heap.size + 1 ≤ W3.heap.size := by have := hb3.size; omega
          clear hb3
          obtain ⟨k, hk⟩ : ∃ k : Nat, k + scale = P.length := ⟨P.length - scale, by omega⟩
          have hkI : (P.length : Int) - (scale : Int) = (k : Int) := by omega
          have hkD : True := by trivial
          obtain ⟨T1, hT1⟩ : ∃ T1, T1 = S3.extract 0 1 := ⟨_, rfl⟩
          obtain ⟨T2, hT2⟩ : ∃ T2, T2 = S3.extract 1 (scale + 1) := ⟨_, rfl⟩
          have HT1 : Hid (T1 = dStr (P.take (P.length - scale))) := by show _ = _; rw [hT1, HS3.out, dStr_ext, List.drop_zero]; congr 2; omega
          have HT2 : Hid (T2 = dStr (P.drop (P.length - scale))) := by show _ = _; rw [hT2, HS3.out, dStr_ext, List.take_of_length_le (by omega)]; congr 2; omega
          have x1 := hT1.symm
          have x2 := hT2.symm
          clear hT1 hT2
          obtain ⟨e0, e1, e2⟩ := res_cells r0 r1 r2 (.bool true) (.string T1) (.string T2)
          have HBl := Lib.hid (res_below B3.out (Nat.le_refl _) (.bool true) (.string T1) (.string T2))
          go_wp2
          go_region
          go_wp2
          exact bodyPost_ret (v := .tuple #[.agg #[.bool true, .string T1, .string T2], .int .i64 0]) (by simp [results, Tryd.results104, go_sem, e0, e1, e2]) rfl ⟨by rw [HT1.out, HT2.out]; exact HO.out, HBl.out.trans ⟨rfl, rfl, rfl, Nat.le_refl _, fun _ _ => rfl⟩⟩
      · have hP : Hid (P = D) := HPX.out.trans (padTo_same (by omega))
        have qs : ¬ (D.length : Int) ≤ (scale : Int) := by omega
        have HS3 : Hid (S = dStr P) := by show _ = _; rw [HS.out, hP.out]
        have hPl : P.length = D.length := by rw [hP.out]
        by_cases h40 : 40 < P.length
        · have HO := Lib.hid (HO1 h40)
          have h40i : (40 : Int) < (D.length : Int) := by omega
          clear HO1 HO2
          obtain ⟨r0, r1, r2⟩ := CR.out
          have z0 := FR.out
          obtain ⟨e0, e1, e2⟩ := res_cells r0 r1 r2 (.bool false) (.string ⟨#[]⟩) (.string ⟨#[]⟩)
          have HBl := Lib.hid (res_below B2.out (Nat.le_refl _) (.bool false) (.string ⟨#[]⟩) (.string ⟨#[]⟩))
          go_wp2
          exact bodyPost_ret (v := .tuple #[.agg #[.bool false, .string ⟨#[]⟩, .string ⟨#[]⟩], .int .i64 3]) (by simp [results, Tryd.results104, go_sem, e0, e1, e2]) rfl ⟨HO.out, HBl.out⟩
        · have HO := Lib.hid (HO2 h40)
          have h40i : (D.length : Int) ≤ 40 := by omega
          clear HO1 HO2
          obtain ⟨r0, r1, r2⟩ := CR.out
          have z0 := FR.out
          obtain ⟨k, hk⟩ : ∃ k : Nat, k + scale = P.length := ⟨P.length - scale, by omega⟩
          have hkI : (P.length : Int) - (scale : Int) = (k : Int) := by omega
          have hkD : (D.length : Int) - (scale : Int) = (k : Int) := by omega
          obtain ⟨T1, hT1⟩ : ∃ T1, T1 = S.extract 0 k := ⟨_, rfl⟩
          obtain ⟨T2, hT2⟩ : ∃ T2, T2 = S.extract k D.length := ⟨_, rfl⟩
          have HT1 : Hid (T1 = dStr (P.take (P.length - scale))) := by show _ = _; rw [hT1, HS3.out, dStr_ext, List.drop_zero]; congr 2; omega
          have HT2 : Hid (T2 = dStr (P.drop (P.length - scale))) := by show _ = _; rw [hT2, HS3.out, dStr_ext, List.take_of_length_le (by omega)]; congr 2; omega
          have x1 := hT1.symm
          have x2 := hT2.symm
          clear hT1 hT2
          obtain ⟨e0, e1, e2⟩ := res_cells r0 r1 r2 (.bool true) (.string T1) (.string T2)
          have HBl := Lib.hid (res_below B2.out (Nat.le_refl _) (.bool true) (.string T1) (.string T2))
          go_wp2
          go_region
          go_wp2
          exact bodyPost_ret (v := .tuple #[.agg #[.bool true, .string T1, .string T2], .int .i64 0]) (by simp [results, Tryd.results104, go_sem, e0, e1, e2]) rfl ⟨by rw [HT1.out, HT2.out]; exact HO.out, HBl.out.trans ⟨rfl, rfl, rfl, Nat.le_refl _, fun _ _ => rfl⟩⟩

end Go.Proofs.YtpbljcjghjbjdaaDoor
