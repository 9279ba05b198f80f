/- The reference's add of layer 3. -/
import Derived.Test.YtpbljcjghjbjdaaRrSub
namespace Go.Proofs.Ytpbljcjghjbjdaa
open Go.RowKit
attribute [local go_sem ↓] Go.wp_at_zero Go.wp_at_succ

set_option maxHeartbeats 8000000 in
set_option maxRecDepth 100000 in
theorem radd_any (lq lt : List Nat) (w : World) (hq : Digs lq) (ht : Digs lt) (h1 : 1 ≤ lq.length) (h2 : lq.length ≤ 100000) (h3 : lt.length ≤ 100000) :
    Calls Try.prog 39 #[.string (dStr lq), .string (dStr lt)] w fun r w' => r = .returned (.string (dStr (digs (dVal lq + dVal lt)))) ∧ Below w.heap.size w w' := by
  obtain ⟨n, hn⟩ : ∃ n, n = lq.length := ⟨_, rfl⟩
  obtain ⟨m, hm⟩ : ∃ m, m = lt.length := ⟨_, rfl⟩
  obtain ⟨N, hN⟩ : ∃ N, N = max n m := ⟨_, rfl⟩
  obtain ⟨x, hx⟩ : ∃ x, x = dVal lq := ⟨_, rfl⟩
  obtain ⟨y, hy⟩ : ∃ y, y = dVal lt := ⟨_, rfl⟩
  have HQV := Lib.hid hx.symm
  have HTV := Lib.hid hy.symm
  have HLQ := Lib.hid hn.symm
  have HLT := Lib.hid hm.symm
  have HQD := Lib.hid hq
  have HTD := Lib.hid ht
  rw [← hn] at h1 h2
  rw [← hm] at h3
  rw [← hx, ← hy]
  have hzt : (dStr lt).size = m := by rw [dStr_size, hm]
  obtain ⟨Z, hZ⟩ : ∃ Z, Z = (nC (List.replicate N 0)).toArray := ⟨_, rfl⟩
  have hmk := fun w => make_bytes N (by omega) w Z hZ
  have K0 := Lib.hid (Blk.new w (nC (List.replicate N 0)) Z hZ)
  have B0 := Lib.hid ((Below.refl _ w).alloc (Nat.le_refl _) (.cells Z 5))
  obtain ⟨TT, hTT⟩ : ∃ TT, TT = dStr lt := ⟨_, rfl⟩
  rw [← hTT] at hzt ⊢
  have HTT := Lib.hid hTT
  have HN := Lib.hid hN
  have N1 : n ≤ N := by omega
  have N2 : m ≤ N := by omega
  have N3 : N ≤ 100000 := by omega
  clear hZ hx hy hn hm hq ht hTT hN
  go_enter Try.func39, Try.ntmps39
  go_wp2
  go_loop [0] (fun v => ∃ j : Nat, v = .string (dStr (List.replicate j 0 ++ lq)) ∧ (j = 0 ∨ j + n ≤ m)) (fun v => m - sizeOfStr v)
  case atStart => exact ⟨0, by first | rfl | exact congrArg Value.string HTT.out, .inl rfl⟩
  case round =>
    obtain ⟨j, rfl, hj⟩ := hrel
    have HJ := Lib.hid hj
    have hzj : (dStr (List.replicate j 0 ++ lq)).size = j + n := by rw [dStr_size, rep_len, HLQ.out]
    have zc := zero_cons (List.replicate j 0 ++ lq)
    have HZC := Lib.hid zc
    clear zc hj
    obtain ⟨X, hX⟩ : ∃ X, X = dStr (List.replicate j 0 ++ lq) := ⟨_, rfl⟩
    rw [← hX] at hzj HZC
    by_cases hlt : j + n < m
    · have HXX := Lib.hid hX
      have q : decide ((j : Int) + (n : Int) < (m : Int)) = true := decide_eq_true (by omega)
      have q' : decide (((j + n : Nat) : Int) < (m : Int)) = true := decide_eq_true (by omega)
      have q'' : decide (j + n < m) = true := decide_eq_true hlt
      have g1 : ¬ 9223372036854775807 < 1 + (j + n) := by omega
      rw [← hX]
      clear hX
      go_wp2
      go_round
      case rel => exact ⟨j + 1, by rw [HZC.out]; rfl, .inr (by omega)⟩
      case measure => have s1 : (⟨#[48]⟩ : ByteArray).size = 1 := rfl; simp [sizeOfStr, hzj, s1]; omega
    · have q : decide ((j : Int) + (n : Int) < (m : Int)) = false := decide_eq_false (by omega)
      have q' : decide (((j + n : Nat) : Int) < (m : Int)) = false := decide_eq_false (by omega)
      have q'' : decide (j + n < m) = false := decide_eq_false hlt
      have hjn : j + n = max n m := by have := HJ.out; omega
      obtain ⟨lp, hlp⟩ : ∃ lp, lp = List.replicate j 0 ++ lq := ⟨_, rfl⟩
      rw [← hlp] at hX
      have HPA : Hid (lp.length = N) := by show _ = _; rw [hlp, rep_len, HLQ.out]; have := HN.out; omega
      have HPAV : Hid (dVal lp = x) := by show _ = _; rw [hlp, rep_val]; exact HQV.out
      have HPAD : Hid (Digs lp) := by show Digs lp; rw [hlp]; exact (Digs.zeros j).append HQD.out
      have HXA := Lib.hid hX
      have hzX : X.size = N := by have := HN.out; omega
      try rw [← hlp]
      rw [← hX]
      clear hX hlp q q' q'' hjn hzj HZC HJ hlt
      obtain ⟨pa, hpa⟩ : ∃ pa, pa = lp := ⟨_, rfl⟩
      obtain ⟨XA, hXA⟩ : ∃ XA, XA = X := ⟨_, rfl⟩
      rw [← hpa] at HPA HPAV HPAD HXA
      rw [← hXA] at HXA hzX ⊢
      clear hpa hXA
      clear lp X j
      have qn : decide ((N : Int) < (m : Int)) = false := decide_eq_false (by omega)
      have qn' : decide (N < m) = false := decide_eq_false (by omega)
      have qn2 : ¬ N < m := by omega
      have qn3 : m ≤ N := by omega
      go_wp2
      go_loop [1] (fun v => ∃ j : Nat, v = .string (dStr (List.replicate j 0 ++ lt)) ∧ (j = 0 ∨ j + m ≤ N)) (fun v => N - sizeOfStr v)
      case atStart => exact ⟨0, by first | rfl | exact congrArg Value.string HTT.out, .inl rfl⟩
      case round =>
        obtain ⟨j, rfl, hj⟩ := hrel
        have HJ := Lib.hid hj
        have hzj : (dStr (List.replicate j 0 ++ lt)).size = j + m := by rw [dStr_size, rep_len, HLT.out]
        have zc := zero_cons (List.replicate j 0 ++ lt)
        have HZC := Lib.hid zc
        clear zc hj
        obtain ⟨X, hX⟩ : ∃ X, X = dStr (List.replicate j 0 ++ lt) := ⟨_, rfl⟩
        rw [← hX] at hzj HZC
        by_cases hlt : j + m < N
        · have HXX := Lib.hid hX
          have q : decide ((j : Int) + (m : Int) < (N : Int)) = true := decide_eq_true (by omega)
          have q' : decide (((j + m : Nat) : Int) < (N : Int)) = true := decide_eq_true (by omega)
          have q'' : decide (j + m < N) = true := decide_eq_true hlt
          have g1 : ¬ 9223372036854775807 < 1 + (j + m) := by omega
          rw [← hX]
          clear hX
          go_wp2
          go_round
          case rel => exact ⟨j + 1, by rw [HZC.out]; rfl, .inr (by omega)⟩
          case measure => have s1 : (⟨#[48]⟩ : ByteArray).size = 1 := rfl; simp [sizeOfStr, hzj, s1]; omega
        · have q : decide ((j : Int) + (m : Int) < (N : Int)) = false := decide_eq_false (by omega)
          have q' : decide (((j + m : Nat) : Int) < (N : Int)) = false := decide_eq_false (by omega)
          have q'' : decide (j + m < N) = false := decide_eq_false hlt
          have hjn : j + m = max m N := by have := HJ.out; omega
          obtain ⟨lp, hlp⟩ : ∃ lp, lp = List.replicate j 0 ++ lt := ⟨_, rfl⟩
          rw [← hlp] at hX
          have HPB : Hid (lp.length = N) := by show _ = _; rw [hlp, rep_len, HLT.out]; omega
          have HPBV : Hid (dVal lp = y) := by show _ = _; rw [hlp, rep_val]; exact HTV.out
          have HPBD : Hid (Digs lp) := by show Digs lp; rw [hlp]; exact (Digs.zeros j).append HTD.out
          have HXB := Lib.hid hX
          have hzB : X.size = N := by omega
          have e1 : IntKind.i64.wrap ((N : Int) - 1) = (N : Int) - 1 := IntWalk.i64_in _ (by omega)
          try rw [← hlp]
          rw [← hX]
          clear hX hlp q q' q'' hjn hzj HZC HJ hlt
          obtain ⟨pb, hpb⟩ : ∃ pb, pb = lp := ⟨_, rfl⟩
          obtain ⟨XB, hXB⟩ : ∃ XB, XB = X := ⟨_, rfl⟩
          rw [← hpb] at HPB HPBV HPBD HXB
          rw [← hXB] at HXB hzB ⊢
          clear hpb hXB
          clear lp X j
          go_wp2
          go_loopw [6, 7] (fun cv iv wr => ∃ (k c : Nat) (rs : List Nat), iv = .int .i64 ((k : Int) - 1) ∧ cv = .int .i64 (c : Int) ∧ c ≤ 1 ∧ k ≤ N ∧ Digs rs ∧ rs.length = N - k ∧ dVal rs + c * 10 ^ (N - k) = dVal (pa.drop k) + dVal (pb.drop k) ∧ Blk wr w.heap.size (nC (List.replicate k 0 ++ rs.map (48 + ·))) ∧ Below w.heap.size w wr) (fun _ iv _ => (intOf iv + 1).toNat)
          case atStart =>
            refine ⟨N, 0, [], by go_num, rfl, by omega, by omega, Digs.nil, by simp, ?_, ?_, B0.out⟩
            · rw [List.drop_eq_nil_of_le (Nat.le_of_eq HPA.out), List.drop_eq_nil_of_le (Nat.le_of_eq HPB.out), dVal_nil]; simp
            · simpa using K0.out
          case round =>
            obtain ⟨k, c, rs, rfl, rfl, hc, hk, hdr, hlr, hE, hB, hbw⟩ := hrel
            have HDR := Lib.hid hdr
            have HLR := Lib.hid hlr
            have HE := Lib.hid hE
            have HBK := Lib.hid hB
            have HW := Lib.hid hbw
            have hf := fun i => hB.frozen i
            clear hdr hlr hE hB hbw
            by_cases hk0 : k = 0
            · subst hk0
              have HR : Hid (dVal rs + c * 10 ^ N = x + y) := by
                have h1 := HE.out
                simp only [List.drop_zero, Nat.sub_zero] at h1
                rw [HPAV.out, HPBV.out] at h1
                exact h1
              have HBB : Hid (Blk wr w.heap.size (Lib.byteCells (dB rs))) := by
                show Blk _ _ _
                rw [byte_cells_of _ HDR.out]
                simpa using HBK.out
              have hrl : rs.length = N := by rw [HLR.out, Nat.sub_zero]
              obtain ⟨T, hT⟩ : ∃ T, T = dStr rs := ⟨_, rfl⟩
              have hTz : T.size = N := by rw [hT, dStr_size, hrl]
              have kc := blk_stringQ wr w.heap.size rs rs 0 N N T hT HBB.out (by rw [List.drop_zero, List.take_of_length_le (Nat.le_of_eq hrl)]) (by omega)
              have DL : Hid (∀ wx : World, Calls Try.prog 40 #[.string T] wx fun r w' => r = .returned (.string (dStr (digs (dVal rs)))) ∧ wx = w') := fun wx => by
                rw [hT]
                exact rlead_any rs wx HDR.out (by omega)
              have HON : Hid ((⟨#[49]⟩ : ByteArray) ++ T = dStr (1 :: rs)) := by
                show _ = _
                rw [hT, show (⟨#[49]⟩ : ByteArray) = dStr [1] from rfl, dStr_append]
                rfl
              have HO1 : Hid (c = 1 → dStr (1 :: rs) = dStr (digs (x + y))) := fun h => by
                congr 1
                have h1 := dLead_digs (1 :: rs) (Digs.cons (by omega) HDR.out)
                have h2 : dLead (1 :: rs) = 1 :: rs := by
                  cases rs with
                  | nil => rfl
                  | cons a t => exact if_neg (by decide)
                rw [← h2, h1, dVal_cons, hrl]
                congr 1
                have := HR.out
                rw [h] at this
                omega
              have g1 : ¬ 9223372036854775807 < 1 + N := by omega
              have HRL := Lib.hid hrl
              clear hT hrl
              by_cases hc1 : c = 1
              · subst hc1
                have HO2 := Lib.hid (HON.out.trans (HO1.out rfl))
                clear HO1 HON
                go_wp2
                go_ret
                exact ⟨ret_s HO2.out, HW.out⟩
              · obtain rfl : c = 0 := by omega
                have HV : Hid (dVal rs = x + y) := by have := HR.out; show _ = _; omega
                rw [HV.out] at DL
                clear HO1 HON
                go_wp2_with fail
                (with_reducible refine (DL.out _).mono ?_)
                rintro e w4 ⟨rfl, rfl⟩
                go_wp2
                go_ret
                exact ⟨rfl, HW.out⟩
            · obtain ⟨p, rfl⟩ : ∃ p, k = p + 1 := ⟨k - 1, by omega⟩
              have pos : p = (List.replicate p 0).length := by simp
              have spl : List.replicate (p + 1) 0 ++ rs.map (48 + ·) = List.replicate p 0 ++ 0 :: rs.map (48 + ·) := by rw [List.replicate_succ', List.append_assoc]; rfl
              have hxd := getD_digs HPAD.out p
              have hyd := getD_digs HPBD.out p
              have c1 : wr.cell? ⟨w.heap.size, p, none⟩ = some (.int .u8 ((0 : Nat) : Int)) := by
                rw [HBK.out.cell, spl, nC_get _ _ (by simp), get_mid _ _ _ _ pos]
              have hpS : p < XA.size := by omega
              have hpX : p < XB.size := by omega
              have t1 := text_at pa HPAD.out XA HXA.out p hpS
              have t2 := text_at pb HPBD.out XB HXB.out p hpX
              have ST := Lib.hid (add_step HPA.out HPB.out (show p < N by omega) HLR.out HE.out)
              have SPL := Lib.hid spl
              have POS := Lib.hid pos
              generalize pa.getD p 0 = a at *
              generalize pb.getD p 0 = b at *
              clear spl pos
              obtain ⟨t, ht⟩ : ∃ t, t = a + (b + c) := ⟨_, rfl⟩
              rw [← ht] at ST
              obtain ⟨z, hz0⟩ : ∃ z, z = t % 10 := ⟨_, rfl⟩
              obtain ⟨y', hy0⟩ : ∃ y', y' = t / 10 := ⟨_, rfl⟩
              rw [← hz0, ← hy0] at ST
              have hz9 : z < 10 := by omega
              have hy1 : y' ≤ 1 := by omega
              have w1 : IntKind.u8.wrap (((XA[p]'hpS).toNat : Int) - 48) = (a : Int) := by rw [t1, IntWalk.u8_in _ (by omega)]; omega
              have w2 : IntKind.u8.wrap (((XB[p]'hpX).toNat : Int) - 48) = (b : Int) := by rw [t2, IntWalk.u8_in _ (by omega)]; omega
              have w1' : IntKind.i64.wrap (a : Int) = (a : Int) := IntWalk.i64_in _ (by omega)
              have w2' : IntKind.i64.wrap (b : Int) = (b : Int) := IntWalk.i64_in _ (by omega)
              have w3 : IntKind.i64.wrap ((a : Int) + (b : Int)) = (a : Int) + (b : Int) := IntWalk.i64_in _ (by omega)
              have w4 : IntKind.i64.wrap ((a : Int) + (b : Int) + (c : Int)) = (t : Int) := by rw [IntWalk.i64_in _ (by omega)]; omega
              have w5 : (t : Int).tmod 10 = (z : Int) := by rw [Int.tmod_eq_emod_of_nonneg (by omega)]; omega
              have w6 : (t : Int).tdiv 10 = (y' : Int) := by rw [Int.tdiv_eq_ediv_of_nonneg (by omega)]; omega
              have w7 : IntKind.i64.wrap (z : Int) = (z : Int) := IntWalk.i64_in _ (by omega)
              have w8 : IntKind.i64.wrap (y' : Int) = (y' : Int) := IntWalk.i64_in _ (by omega)
              have e4 : IntKind.i64.wrap (48 + (z : Int)) = 48 + (z : Int) := IntWalk.i64_in _ (by omega)
              have e5 : IntKind.u8.wrap (48 + (z : Int)) = 48 + (z : Int) := IntWalk.u8_in _ ⟨by omega, by omega⟩
              have i0 : (0 : Int) ≤ (p : Int) := by omega
              have i1 : (p : Int) < (N : Int) := by omega
              have HY1 := Lib.hid hy1
              have HZ9 := Lib.hid hz9
              clear t1 t2 ht hz0 hy0 hy1 hz9
              go_wp2
              go_region
              go_wp2
              go_roundw
              case rel =>
                refine ⟨p, y', z :: rs, rfl, rfl, HY1.out, by omega, Digs.cons HZ9.out HDR.out, by rw [List.length_cons, HLR.out]; omega, ST.out, ?_, ?_⟩
                · have := HBK.out.set_ p (.int .u8 ((48 + z : Nat) : Int))
                  rw [nC_set, SPL.out, set_mid _ _ _ _ _ POS.out] at this
                  exact this
                · exact (HW.out.setCell (p := ⟨w.heap.size, p, none⟩) (Nat.le_refl _) _).trans ⟨rfl, rfl, rfl, Nat.le_refl _, fun _ _ => rfl⟩
              case measure => simp [intOf]
end Go.Proofs.Ytpbljcjghjbjdaa
