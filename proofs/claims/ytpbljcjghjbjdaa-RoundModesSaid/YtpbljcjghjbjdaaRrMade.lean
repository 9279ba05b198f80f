/- The reference's Made of layer 3. -/
import Derived.Test.YtpbljcjghjbjdaaRrAway
namespace Go.Proofs.Ytpbljcjghjbjdaa
open Go.RowKit
attribute [local go_sem ↓] Go.wp_at_zero Go.wp_at_succ

set_option maxHeartbeats 4000000 in
set_option maxRecDepth 100000 in
theorem rmade_true (lq : List Nat) (p : Nat) (P : List Nat) (w : World) (hP : P = padTo (p + 1) lq) (hd : Digs lq) (hl : lq.length ≤ 100000) (hp : p ≤ 100000) :
    Calls Try.prog 20 #[.bool true, .string (dStr lq), .int .i64 (p : Int)] w fun r w' => r = .returned (.agg #[.bool (true && decide (dVal lq ≠ 0)), .string (dStr (digs (dVal (P.take (P.length - p))))), .string (dStr (P.drop (P.length - p)))]) ∧ Below w.heap.size w w' := by
  obtain ⟨n, hn⟩ : ∃ n, n = lq.length := ⟨_, rfl⟩
  have hPl : P.length = max (p + 1) n := by rw [hP, padTo_len, hn]
  have hPd : Digs P := by rw [hP]; exact padTo_digs hd
  have hPv : dVal P = dVal lq := by rw [hP, padTo_val]
  obtain ⟨N, hN⟩ : ∃ N, N = P.length := ⟨_, rfl⟩
  obtain ⟨m, hm⟩ : ∃ m, m + p = N := ⟨N - p, by omega⟩
  rw [show P.length - p = m by omega]
  obtain ⟨X, hX⟩ : ∃ X, X = dStr P := ⟨_, rfl⟩
  have hXz : X.size = N := by rw [hX, dStr_size, hN]
  have hE1 : X.extract 0 m = dStr (P.take m) := by rw [hX, dStr_ext, List.drop_zero]
  have hE2 : X.extract m N = dStr (P.drop m) := by rw [hX, dStr_ext, hN, List.take_length]
  obtain ⟨I, hI⟩ : ∃ I, I = dStr (digs (dVal (P.take m))) := ⟨_, rfl⟩
  obtain ⟨F, hF⟩ : ∃ F, F = dStr (P.drop m) := ⟨_, rfl⟩
  have hFz : F.size = p := by rw [hF, dStr_size, List.length_drop]; omega
  have hIz : I.size ≤ 200000 := by
    rw [hI, dStr_size]
    have := (digs_le (dVal (P.take m)) (max 1 (P.take m).length) (by omega)).2 (Nat.lt_of_lt_of_le (dVal_lt (hPd.take m)) (Nat.pow_le_pow_right (by omega) (by omega)))
    rw [List.length_take] at this
    omega
  have DL1 : Hid (∀ (wx : World) {Y : ByteArray}, Y = X.extract 0 m → Calls Try.prog 40 #[.string Y] wx fun r w' => r = .returned (.string I) ∧ wx = w') := fun wx Y hY => by
    rw [hY, hE1, hI]
    exact rlead_any (P.take m) wx (hPd.take m) (by rw [List.length_take]; omega)
  obtain ⟨Z, hZ⟩ : ∃ Z, Z = dStr (digs (dVal lq)) := ⟨_, rfl⟩
  have DL2 : Hid (∀ (wx : World) {Y : ByteArray}, Y = I ++ F → Calls Try.prog 40 #[.string Y] wx fun r w' => r = .returned (.string Z) ∧ wx = w') := fun wx Y hY => by
    have hv : dVal (digs (dVal (P.take m)) ++ P.drop m) = dVal lq := by
      rw [dVal_append, dVal_digs, ← dVal_append, List.take_append_drop]
      exact hPv
    rw [hY, hI, hF, dStr_append, hZ, ← hv]
    exact rlead_any _ wx ((digs_digs _).append (hPd.drop m)) (by rw [hI, dStr_size] at hIz; rw [List.length_append, List.length_drop]; omega)
  have qz : (Z.toList == [48]) = decide (dVal lq = 0) := by rw [hZ, zero_text]
  have HE2 : Hid (X.extract m N = F) := by show _ = _; rw [hE2, hF]
  have HLQ := Lib.hid hn.symm
  have HPX : Hid (∀ j, j + n = max (p + 1) n ∨ False → True) := fun _ _ => trivial
  have HJP : Hid (∀ j, j + n = N → List.replicate j 0 ++ lq = P) := fun j hj => by
    rw [hP]
    unfold padTo
    congr 2
    omega
  have HXX := Lib.hid hX
  have HN : Hid (N = max (p + 1) n) := by show _ = _; omega
  have N1 : n ≤ N := by omega
  have N2 : p + 1 ≤ N := by omega
  have N3 : N ≤ 200000 := by omega
  have HTT : Hid (True) := trivial
  rw [← hI, ← hF]
  have ezn : (decide (dVal lq ≠ 0)) = !decide (dVal lq = 0) := by by_cases h : dVal lq = 0 <;> simp [h]
  rw [ezn]
  generalize decide (dVal lq = 0) = zz at *
  clear hP hPl hPd hPv hN hX hE1 hE2 hI hF hZ ezn hn HPX hd
  go_enter Try.func20, Try.ntmps20
  go_wp2
  go_loop [1] (fun v => ∃ j : Nat, v = .string (dStr (List.replicate j 0 ++ lq)) ∧ (j = 0 ∨ j + n ≤ N)) (fun v => N - sizeOfStr v)
  case atStart => exact ⟨0, by first | rfl | exact congrArg Value.string HTT.out, .inl rfl⟩
  case round =>
    obtain ⟨j, rfl, hj⟩ := hrel
    have HJ := Lib.hid hj
    have hzj : (dStr (List.replicate j 0 ++ lq)).size = j + n := by rw [dStr_size, rep_len, HLQ.out]
    have zc := zero_cons (List.replicate j 0 ++ lq)
    have HZC := Lib.hid zc
    clear zc hj
    obtain ⟨X2, hX⟩ : ∃ X2, X2 = dStr (List.replicate j 0 ++ lq) := ⟨_, rfl⟩
    rw [← hX] at hzj HZC
    by_cases hlt : j + n < N
    · have HXX := Lib.hid hX
      have q : decide ((j : Int) + (n : Int) < (N : Int)) = true := decide_eq_true (by omega)
      have q' : decide (((j + n : Nat) : Int) < (N : Int)) = true := decide_eq_true (by omega)
      have q'' : decide (j + n < N) = true := decide_eq_true hlt
      have g1 : ¬ 9223372036854775807 < 1 + (j + n) := by omega
      have hle : j + n ≤ p := by have := HN.out; have := HJ.out; omega
      have r1 : decide ((j : Int) + (n : Int) ≤ (p : Int)) = true := decide_eq_true (by omega)
      have r2 : decide (((j + n : Nat) : Int) ≤ (p : Int)) = true := decide_eq_true (by omega)
      have r3 : decide (j + n ≤ p) = true := decide_eq_true hle
      rw [← hX]
      clear hX
      go_wp2
      go_round
      case rel => exact ⟨j + 1, by rw [HZC.out]; rfl, .inr (by omega)⟩
      case measure => have s1 : (⟨#[48]⟩ : ByteArray).size = 1 := rfl; simp [sizeOfStr, hzj, s1]; omega
    · have q : decide ((j : Int) + (n : Int) < (N : Int)) = false := decide_eq_false (by omega)
      have q' : decide (((j + n : Nat) : Int) < (N : Int)) = false := decide_eq_false (by omega)
      have q'' : decide (j + n < N) = false := decide_eq_false hlt
      have hgt : ¬ j + n ≤ p := by have := HN.out; have := HJ.out; omega
      have r1 : decide ((j : Int) + (n : Int) ≤ (p : Int)) = false := decide_eq_false (by omega)
      have r2 : decide (((j + n : Nat) : Int) ≤ (p : Int)) = false := decide_eq_false (by omega)
      have r3 : decide (j + n ≤ p) = false := decide_eq_false hgt
      have hjn : j + n = max n N := by have := HJ.out; omega
      obtain ⟨lp, hlp⟩ : ∃ lp, lp = List.replicate j 0 ++ lq := ⟨_, rfl⟩
      rw [← hlp] at hX
      try rw [← hlp]
      rw [← hX]
      have hjN : j + n = N := by have := HN.out; omega
      obtain rfl : X2 = X := by rw [hX, HXX.out]; congr 1; rw [hlp]; exact HJP.out j hjN
      have w1 : IntKind.i64.wrap ((N : Int) - (p : Int)) = (m : Int) := by rw [IntWalk.i64_in _ (by omega)]; omega
      have i1 : (m : Int) ≤ (N : Int) := by omega
      have i2 : (0 : Int) ≤ (m : Int) := by omega
      have g1 : ¬ 9223372036854775807 < I.size + p := by omega
      have qq : decide ((N : Int) ≤ (p : Int)) = false := decide_eq_false (by omega)
      have qq2 : ¬ N ≤ p := by omega
      clear hX hlp q q' q'' hjn HZC HJ hlt hgt r1 r2 r3
      go_wp2
      have i3 : (m : Int) + (p : Int) = (N : Int) := by omega
      go_region_held3 (fun _ => True) (first | trivial)
        (first | (go_at_call 40; (with_reducible refine (DL1.out _ ?_).mono ?_); (focus rfl); rintro e wA ⟨rfl, rfl⟩))
      all_goals
        obtain ⟨W3, hW3⟩ : ∃ W3, W3 = ((w.alloc (.cells #[.bool false, .string ⟨#[]⟩, .string ⟨#[]⟩] 23)).alloc (.cells #[.bool false, .string I, .string (X2.extract m N)] 23)).drew := ⟨_, rfl⟩
        obtain ⟨hb3, hz3, CR, CD, FD, FR⟩ : Below w.heap.size w W3 ∧ w.heap.size + 2 ≤ W3.heap.size ∧ Cells3 W3 w.heap.size (.bool false) (.string ⟨#[]⟩) (.string ⟨#[]⟩) ∧ Cells3 W3 (w.heap.size + 1) (.bool false) (.string I) (.string F) ∧ (∀ i, W3.frozen? ⟨w.heap.size + 1, i, none⟩ = false) ∧ ∀ i, W3.frozen? ⟨w.heap.size, i, none⟩ = false := by
          rw [hW3, HE2.out]
          obtain ⟨a1, a2, a3, a4⟩ := two_boxes w (.bool false) (.string ⟨#[]⟩) (.string ⟨#[]⟩) (.bool false) (.string I) (.string F) 23
          have a5 := frozen_keep (one_box w (.bool false) (.string ⟨#[]⟩) (.string ⟨#[]⟩) 23).2.2 ((Below.refl _ _).alloc (Nat.le_refl _) (.cells #[.bool false, .string I, .string F] 23)) (by simp)
          exact ⟨drew1 (below_two w _ _), a1, a2, a3, fun i => a4 i, fun i => a5 i⟩
        rw [← hW3]
        clear hW3
        obtain ⟨d0, d1, d2⟩ := CD
        have B3 := Lib.hid hb3
        clear hb3
        obtain ⟨W4, hW4⟩ : ∃ W4, W4 = W3.setCell ⟨w.heap.size + 1, 0, none⟩ (.bool (!zz)) := ⟨_, rfl⟩
        have k0 : W4.cell? ⟨w.heap.size + 1, 0, none⟩ = some (.bool (!zz)) := by rw [hW4]; exact cell_set_same _ _ _ _ d0
        have k1 : W4.cell? ⟨w.heap.size + 1, 1, none⟩ = some (.string I) := by rw [hW4]; exact cell_set_far _ _ _ _ _ _ (by decide) d1
        have k2 : W4.cell? ⟨w.heap.size + 1, 2, none⟩ = some (.string F) := by rw [hW4]; exact cell_set_far _ _ _ _ _ _ (by decide) d2
        have fa : ∀ i, W4.cell? ⟨w.heap.size, i, none⟩ = W3.cell? ⟨w.heap.size, i, none⟩ := fun i => by
          rw [hW4]
          exact World.cell?_setCell_other _ _ _ _ (fun e => by have := congrArg Addr.block e; simp at this)
        have r0 := (fa 0).trans CR.1
        have r1 := (fa 1).trans CR.2.1
        have r2 := (fa 2).trans CR.2.2
        have z0 : ∀ i, W4.frozen? ⟨w.heap.size, i, none⟩ = false := fun i => by rw [hW4]; simpa using FR i
        have B4 : Hid (Below w.heap.size w W4) := by show Below _ _ _; rw [hW4]; exact B3.out.setCell (p := ⟨w.heap.size + 1, 0, none⟩) (Nat.le_succ _) _
        obtain ⟨e0, e1, e2⟩ := res_cells r0 r1 r2 (.bool (!zz)) (.string I) (.string F)
        have HBl := Lib.hid (res_below B4.out (Nat.le_refl _) (.bool (!zz)) (.string I) (.string F))
        rw [hW4] at k0 k1 k2 r0 r1 r2 z0 e0 e1 e2 HBl
        clear hW4 fa CR FR B4
        have qzn : (Z.toList != [48]) = !zz := by rw [bne, qz]
        go_wp2_with fail
        (with_reducible refine (DL2.out _ ?_).mono ?_)
        · rfl
        rintro e w5 ⟨rfl, rfl⟩
        go_wp2
        exact bodyPost_ret (v := .agg #[.bool (!zz), .string I, .string F]) (by simp [results, Try.results20, go_sem, e0, e1, e2]) rfl ⟨by simp, HBl.out⟩

set_option maxHeartbeats 4000000 in
set_option maxRecDepth 100000 in
theorem rmade_false (lq : List Nat) (p : Nat) (P : List Nat) (w : World) (hP : P = padTo (p + 1) lq) (hd : Digs lq) (hl : lq.length ≤ 100000) (hp : p ≤ 100000) :
    Calls Try.prog 20 #[.bool false, .string (dStr lq), .int .i64 (p : Int)] w fun r w' => r = .returned (.agg #[.bool (false && decide (dVal lq ≠ 0)), .string (dStr (digs (dVal (P.take (P.length - p))))), .string (dStr (P.drop (P.length - p)))]) ∧ Below w.heap.size w w' := by
  obtain ⟨n, hn⟩ : ∃ n, n = lq.length := ⟨_, rfl⟩
  have hPl : P.length = max (p + 1) n := by rw [hP, padTo_len, hn]
  have hPd : Digs P := by rw [hP]; exact padTo_digs hd
  have hPv : dVal P = dVal lq := by rw [hP, padTo_val]
  obtain ⟨N, hN⟩ : ∃ N, N = P.length := ⟨_, rfl⟩
  obtain ⟨m, hm⟩ : ∃ m, m + p = N := ⟨N - p, by omega⟩
  rw [show P.length - p = m by omega]
  obtain ⟨X, hX⟩ : ∃ X, X = dStr P := ⟨_, rfl⟩
  have hXz : X.size = N := by rw [hX, dStr_size, hN]
  have hE1 : X.extract 0 m = dStr (P.take m) := by rw [hX, dStr_ext, List.drop_zero]
  have hE2 : X.extract m N = dStr (P.drop m) := by rw [hX, dStr_ext, hN, List.take_length]
  obtain ⟨I, hI⟩ : ∃ I, I = dStr (digs (dVal (P.take m))) := ⟨_, rfl⟩
  obtain ⟨F, hF⟩ : ∃ F, F = dStr (P.drop m) := ⟨_, rfl⟩
  have hFz : F.size = p := by rw [hF, dStr_size, List.length_drop]; omega
  have hIz : I.size ≤ 200000 := by
    rw [hI, dStr_size]
    have := (digs_le (dVal (P.take m)) (max 1 (P.take m).length) (by omega)).2 (Nat.lt_of_lt_of_le (dVal_lt (hPd.take m)) (Nat.pow_le_pow_right (by omega) (by omega)))
    rw [List.length_take] at this
    omega
  have DL1 : Hid (∀ (wx : World) {Y : ByteArray}, Y = X.extract 0 m → Calls Try.prog 40 #[.string Y] wx fun r w' => r = .returned (.string I) ∧ wx = w') := fun wx Y hY => by
    rw [hY, hE1, hI]
    exact rlead_any (P.take m) wx (hPd.take m) (by rw [List.length_take]; omega)
  obtain ⟨Z, hZ⟩ : ∃ Z, Z = dStr (digs (dVal lq)) := ⟨_, rfl⟩
  have DL2 : Hid (∀ (wx : World) {Y : ByteArray}, Y = I ++ F → Calls Try.prog 40 #[.string Y] wx fun r w' => r = .returned (.string Z) ∧ wx = w') := fun wx Y hY => by
    have hv : dVal (digs (dVal (P.take m)) ++ P.drop m) = dVal lq := by
      rw [dVal_append, dVal_digs, ← dVal_append, List.take_append_drop]
      exact hPv
    rw [hY, hI, hF, dStr_append, hZ, ← hv]
    exact rlead_any _ wx ((digs_digs _).append (hPd.drop m)) (by rw [hI, dStr_size] at hIz; rw [List.length_append, List.length_drop]; omega)
  have qz : (Z.toList == [48]) = decide (dVal lq = 0) := by rw [hZ, zero_text]
  have HE2 : Hid (X.extract m N = F) := by show _ = _; rw [hE2, hF]
  have HLQ := Lib.hid hn.symm
  have HPX : Hid (∀ j, j + n = max (p + 1) n ∨ False → True) := fun _ _ => trivial
  have HJP : Hid (∀ j, j + n = N → List.replicate j 0 ++ lq = P) := fun j hj => by
    rw [hP]
    unfold padTo
    congr 2
    omega
  have HXX := Lib.hid hX
  have HN : Hid (N = max (p + 1) n) := by show _ = _; omega
  have N1 : n ≤ N := by omega
  have N2 : p + 1 ≤ N := by omega
  have N3 : N ≤ 200000 := by omega
  have HTT : Hid (True) := trivial
  rw [← hI, ← hF]
  have ezn : (decide (dVal lq ≠ 0)) = !decide (dVal lq = 0) := by by_cases h : dVal lq = 0 <;> simp [h]
  rw [ezn]
  generalize decide (dVal lq = 0) = zz at *
  clear hP hPl hPd hPv hN hX hE1 hE2 hI hF hZ ezn hn HPX hd
  go_enter Try.func20, Try.ntmps20
  go_wp2
  go_loop [1] (fun v => ∃ j : Nat, v = .string (dStr (List.replicate j 0 ++ lq)) ∧ (j = 0 ∨ j + n ≤ N)) (fun v => N - sizeOfStr v)
  case atStart => exact ⟨0, by first | rfl | exact congrArg Value.string HTT.out, .inl rfl⟩
  case round =>
    obtain ⟨j, rfl, hj⟩ := hrel
    have HJ := Lib.hid hj
    have hzj : (dStr (List.replicate j 0 ++ lq)).size = j + n := by rw [dStr_size, rep_len, HLQ.out]
    have zc := zero_cons (List.replicate j 0 ++ lq)
    have HZC := Lib.hid zc
    clear zc hj
    obtain ⟨X2, hX⟩ : ∃ X2, X2 = dStr (List.replicate j 0 ++ lq) := ⟨_, rfl⟩
    rw [← hX] at hzj HZC
    by_cases hlt : j + n < N
    · have HXX := Lib.hid hX
      have q : decide ((j : Int) + (n : Int) < (N : Int)) = true := decide_eq_true (by omega)
      have q' : decide (((j + n : Nat) : Int) < (N : Int)) = true := decide_eq_true (by omega)
      have q'' : decide (j + n < N) = true := decide_eq_true hlt
      have g1 : ¬ 9223372036854775807 < 1 + (j + n) := by omega
      have hle : j + n ≤ p := by have := HN.out; have := HJ.out; omega
      have r1 : decide ((j : Int) + (n : Int) ≤ (p : Int)) = true := decide_eq_true (by omega)
      have r2 : decide (((j + n : Nat) : Int) ≤ (p : Int)) = true := decide_eq_true (by omega)
      have r3 : decide (j + n ≤ p) = true := decide_eq_true hle
      rw [← hX]
      clear hX
      go_wp2
      go_round
      case rel => exact ⟨j + 1, by rw [HZC.out]; rfl, .inr (by omega)⟩
      case measure => have s1 : (⟨#[48]⟩ : ByteArray).size = 1 := rfl; simp [sizeOfStr, hzj, s1]; omega
    · have q : decide ((j : Int) + (n : Int) < (N : Int)) = false := decide_eq_false (by omega)
      have q' : decide (((j + n : Nat) : Int) < (N : Int)) = false := decide_eq_false (by omega)
      have q'' : decide (j + n < N) = false := decide_eq_false hlt
      have hgt : ¬ j + n ≤ p := by have := HN.out; have := HJ.out; omega
      have r1 : decide ((j : Int) + (n : Int) ≤ (p : Int)) = false := decide_eq_false (by omega)
      have r2 : decide (((j + n : Nat) : Int) ≤ (p : Int)) = false := decide_eq_false (by omega)
      have r3 : decide (j + n ≤ p) = false := decide_eq_false hgt
      have hjn : j + n = max n N := by have := HJ.out; omega
      obtain ⟨lp, hlp⟩ : ∃ lp, lp = List.replicate j 0 ++ lq := ⟨_, rfl⟩
      rw [← hlp] at hX
      try rw [← hlp]
      rw [← hX]
      have hjN : j + n = N := by have := HN.out; omega
      obtain rfl : X2 = X := by rw [hX, HXX.out]; congr 1; rw [hlp]; exact HJP.out j hjN
      have w1 : IntKind.i64.wrap ((N : Int) - (p : Int)) = (m : Int) := by rw [IntWalk.i64_in _ (by omega)]; omega
      have i1 : (m : Int) ≤ (N : Int) := by omega
      have i2 : (0 : Int) ≤ (m : Int) := by omega
      have g1 : ¬ 9223372036854775807 < I.size + p := by omega
      have qq : decide ((N : Int) ≤ (p : Int)) = false := decide_eq_false (by omega)
      have qq2 : ¬ N ≤ p := by omega
      clear hX hlp q q' q'' hjn HZC HJ hlt hgt r1 r2 r3
      go_wp2
      have i3 : (m : Int) + (p : Int) = (N : Int) := by omega
      go_region_held3 (fun _ => True) (first | trivial)
        (first | (go_at_call 40; (with_reducible refine (DL1.out _ ?_).mono ?_); (focus rfl); rintro e wA ⟨rfl, rfl⟩))
      all_goals
        obtain ⟨W3, hW3⟩ : ∃ W3, W3 = ((w.alloc (.cells #[.bool false, .string ⟨#[]⟩, .string ⟨#[]⟩] 23)).alloc (.cells #[.bool false, .string I, .string (X2.extract m N)] 23)).drew := ⟨_, rfl⟩
        obtain ⟨hb3, hz3, CR, CD, FD, FR⟩ : Below w.heap.size w W3 ∧ w.heap.size + 2 ≤ W3.heap.size ∧ Cells3 W3 w.heap.size (.bool false) (.string ⟨#[]⟩) (.string ⟨#[]⟩) ∧ Cells3 W3 (w.heap.size + 1) (.bool false) (.string I) (.string F) ∧ (∀ i, W3.frozen? ⟨w.heap.size + 1, i, none⟩ = false) ∧ ∀ i, W3.frozen? ⟨w.heap.size, i, none⟩ = false := by
          rw [hW3, HE2.out]
          obtain ⟨a1, a2, a3, a4⟩ := two_boxes w (.bool false) (.string ⟨#[]⟩) (.string ⟨#[]⟩) (.bool false) (.string I) (.string F) 23
          have a5 := frozen_keep (one_box w (.bool false) (.string ⟨#[]⟩) (.string ⟨#[]⟩) 23).2.2 ((Below.refl _ _).alloc (Nat.le_refl _) (.cells #[.bool false, .string I, .string F] 23)) (by simp)
          exact ⟨drew1 (below_two w _ _), a1, a2, a3, fun i => a4 i, fun i => a5 i⟩
        rw [← hW3]
        clear hW3
        obtain ⟨d0, d1, d2⟩ := CD
        have B3 := Lib.hid hb3
        clear hb3
        obtain ⟨W4, hW4⟩ : ∃ W4, W4 = W3.setCell ⟨w.heap.size + 1, 0, none⟩ (.bool false) := ⟨_, rfl⟩
        have k0 : W4.cell? ⟨w.heap.size + 1, 0, none⟩ = some (.bool false) := by rw [hW4]; exact cell_set_same _ _ _ _ d0
        have k1 : W4.cell? ⟨w.heap.size + 1, 1, none⟩ = some (.string I) := by rw [hW4]; exact cell_set_far _ _ _ _ _ _ (by decide) d1
        have k2 : W4.cell? ⟨w.heap.size + 1, 2, none⟩ = some (.string F) := by rw [hW4]; exact cell_set_far _ _ _ _ _ _ (by decide) d2
        have fa : ∀ i, W4.cell? ⟨w.heap.size, i, none⟩ = W3.cell? ⟨w.heap.size, i, none⟩ := fun i => by
          rw [hW4]
          exact World.cell?_setCell_other _ _ _ _ (fun e => by have := congrArg Addr.block e; simp at this)
        have r0 := (fa 0).trans CR.1
        have r1 := (fa 1).trans CR.2.1
        have r2 := (fa 2).trans CR.2.2
        have z0 : ∀ i, W4.frozen? ⟨w.heap.size, i, none⟩ = false := fun i => by rw [hW4]; simpa using FR i
        have B4 : Hid (Below w.heap.size w W4) := by show Below _ _ _; rw [hW4]; exact B3.out.setCell (p := ⟨w.heap.size + 1, 0, none⟩) (Nat.le_succ _) _
        obtain ⟨e0, e1, e2⟩ := res_cells r0 r1 r2 (.bool false) (.string I) (.string F)
        have HBl := Lib.hid (res_below B4.out (Nat.le_refl _) (.bool false) (.string I) (.string F))
        rw [hW4] at k0 k1 k2 r0 r1 r2 z0 e0 e1 e2 HBl
        clear hW4 fa CR FR B4
        go_wp2
        exact bodyPost_ret (v := .agg #[.bool false, .string I, .string F]) (by simp [results, Try.results20, go_sem, e0, e1, e2]) rfl ⟨by simp, HBl.out⟩
end Go.Proofs.Ytpbljcjghjbjdaa
