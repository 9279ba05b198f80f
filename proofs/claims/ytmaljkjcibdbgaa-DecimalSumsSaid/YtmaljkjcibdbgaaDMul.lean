/- multiply: the product of digits. -/
import Derived.Test.YtmaljkjcibdbgaaDTop
import Derived.IntWalk
namespace Go.Proofs.Ytmaljkjcibdbgaa
open Go.RowKit
attribute [local go_sem ↓] Go.wp_at_zero Go.wp_at_succ

/-- One digit more of the inner sum. -/
theorem mul_in {rs lb ts : List Nat} {n m p q x c : Nat} (hr : rs.length = n + m - (p + 1)) (hb : lb.length = m) (hp : p + 1 ≤ n) (hq : q < m) (ht : ts.length = n + m - (p + 1) - (q + 1)) (h : dVal ts + c * 10 ^ (n + m - (p + 1) - (q + 1)) = dVal (rs.drop (q + 1)) + x * dVal (lb.drop (q + 1)) * 10 ^ (n - (p + 1))) :
    dVal ((rs.getD q 0 + x * lb.getD q 0 + c) % 10 :: ts) + (rs.getD q 0 + x * lb.getD q 0 + c) / 10 * 10 ^ (n + m - (p + 1) - q) = dVal (rs.drop q) + x * dVal (lb.drop q) * 10 ^ (n - (p + 1)) := by
  rw [drop_at rs q (by omega), drop_at lb q (by omega), dVal_cons, dVal_cons, dVal_cons, List.length_drop, List.length_drop, hb, hr, ht]
  have e1 : n + m - (p + 1) - q = n + m - (p + 1) - (q + 1) + 1 := by omega
  have e2 : 10 ^ (m - (q + 1)) * 10 ^ (n - (p + 1)) = 10 ^ (n + m - (p + 1) - (q + 1)) := by
    rw [← Nat.pow_add]
    congr 1
    omega
  rw [e1, Nat.pow_succ]
  generalize 10 ^ (n + m - (p + 1) - (q + 1)) = P at *
  generalize 10 ^ (m - (q + 1)) = T at *
  generalize 10 ^ (n - (p + 1)) = E at *
  generalize rs.getD q 0 = r
  generalize lb.getD q 0 = y
  generalize dVal ts = D at *
  generalize dVal (rs.drop (q + 1)) = R at *
  generalize dVal (lb.drop (q + 1)) = B at *
  have h2 : x * (y * T + B) * E = x * y * P + x * B * E := by
    rw [Nat.mul_add, Nat.add_mul, ← Nat.mul_assoc, Nat.mul_assoc (x * y) T E, e2]
  have h3 : r + x * y + c = 10 * ((r + x * y + c) / 10) + (r + x * y + c) % 10 := (Nat.div_add_mod _ _).symm
  have h4 : (r + x * y + c) * P = r * P + x * y * P + c * P := by rw [Nat.add_mul, Nat.add_mul]
  have h5 : (r + x * y + c) * P = (r + x * y + c) % 10 * P + (r + x * y + c) / 10 * (P * 10) := by
    conv => lhs; rw [h3, Nat.add_mul]
    rw [Nat.mul_comm P 10, ← Nat.mul_assoc, Nat.mul_comm _ 10, Nat.add_comm]
  rw [h2]
  omega

set_option maxHeartbeats 4000000 in
set_option maxRecDepth 100000 in
theorem multiply_any (la lb : List Nat) (ga gb n m : Nat) (w : World) (hA : Blk w ga (nC la)) (hB : Blk w gb (nC lb)) (da : Digs la) (db : Digs lb) (ha : la.length = n) (hb : lb.length = m) (hn1 : 1 ≤ n) (hm1 : 1 ≤ m) (hn : n + m ≤ 1000000) :
    Calls Try.prog 61 #[.slice (some ⟨ga, 0, none⟩) n n, .slice (some ⟨gb, 0, none⟩) m m] w (MadeN w (n + m) (dVal la * dVal lb)) := by
  have LA := hA.lt
  have LB := hB.lt
  obtain ⟨Z, hZ⟩ : ∃ Z, Z = (nC (List.replicate (n + m) 0)).toArray := ⟨_, rfl⟩
  have hmk := fun w => make_bytes (n + m) hn w Z hZ
  rw [show ((n + m : Nat) : Int) = (n : Int) + (m : Int) by omega] at hmk
  have K0 := Lib.hid (Blk.new w (nC (List.replicate (n + m) 0)) Z hZ)
  have HA := Lib.hid hA
  have HB := Lib.hid hB
  have HDA := Lib.hid da
  have HDB := Lib.hid db
  have HLA := Lib.hid ha
  have HLB := Lib.hid hb
  have B0 := Lib.hid ((Below.refl _ w).alloc (Nat.le_refl _) (.cells Z 5))
  clear hZ hA hB da db ha hb
  go_enter Try.func61, Try.ntmps61
  go_wp2
  -- outer: the last k digits of a are not done yet; behind place k + m stands what is done
  go_loopw [6] (fun i wr => ∃ (k : Nat) (rs : List Nat), i = .int .i64 ((k : Int) - 1) ∧ k ≤ n ∧ Digs rs ∧ rs.length = n + m - k ∧ dVal rs = dVal (la.drop k) * dVal lb ∧ Blk wr w.heap.size (nC (List.replicate k 0 ++ rs)) ∧ Below w.heap.size w wr) (fun i _ => (intOf i + 1).toNat)
  case atStart =>
    refine ⟨n, List.replicate m 0, by go_num, by omega, .zeros _, by simp, ?_, ?_, B0.out⟩
    · rw [dVal_zeros, List.drop_eq_nil_of_le (Nat.le_of_eq HLA.out), dVal_nil, Nat.zero_mul]
    · have := K0.out
      rw [← List.replicate_append_replicate] at this
      exact this
  case round =>
    obtain ⟨k, rs, rfl, hk, hdr, hlr, hE, hBk, hbw⟩ := hrel
    have HDR := Lib.hid hdr
    have HLR := Lib.hid hlr
    have HE := Lib.hid hE
    have HBK := Lib.hid hBk
    have HW := Lib.hid hbw
    clear hdr hlr hE hBk hbw
    by_cases hk0 : k = 0
    · subst hk0
      have HR : Hid (rs = fixD (n + m) (dVal la * dVal lb)) := fixD_of HDR.out (by rw [HLR.out]; omega) (by omega) (by rw [HE.out, List.drop_zero])
      go_wp2
      go_ret
      exact ⟨rfl, by rw [← HR.out]; simpa using HBK.out, HW.out⟩
    · obtain ⟨p, rfl⟩ : ∃ p, k = p + 1 := ⟨k - 1, by omega⟩
      have hx := getD_digs HDA.out p
      have HDP := Lib.hid (drop_at la p (by rw [HLA.out]; omega))
      generalize hxx : la.getD p 0 = x at *
      have HX := Lib.hid hxx
      clear hxx
      go_wp2
      -- inner: the last j digits of b are not done yet; what stands from place p + 1 + j on is the old row, and x times the done digits of b
      go_loopw [7, 8] (fun cv jv wr => ∃ (j c : Nat) (ts : List Nat), jv = .int .i64 ((j : Int) - 1) ∧ cv = .int .u8 (c : Int) ∧ c ≤ 9 ∧ j ≤ m ∧ Digs ts ∧ ts.length = n + m - (p + 1) - j ∧ dVal ts + c * 10 ^ (n + m - (p + 1) - j) = dVal (rs.drop j) + x * dVal (lb.drop j) * 10 ^ (n - (p + 1)) ∧ Blk wr w.heap.size (nC (List.replicate (p + 1) 0 ++ (rs.take j ++ ts))) ∧ Below w.heap.size w wr) (fun _ jv _ => (intOf jv + 1).toNat)
      case atStart =>
        refine ⟨m, 0, rs.drop m, by go_num, rfl, by omega, by omega, HDR.out.drop _, by rw [List.length_drop, HLR.out], ?_, ?_, HW.out⟩
        · rw [List.drop_eq_nil_of_le (Nat.le_of_eq HLB.out), dVal_nil]; simp
        · rw [List.take_append_drop]; exact HBK.out
      case round =>
        obtain ⟨j, c, ts, rfl, rfl, hc, hj, hdt, hlt2, hE2, hB2, hbw2⟩ := hrel
        have HDT := Lib.hid hdt
        have HLT := Lib.hid hlt2
        have HE2 := Lib.hid hE2
        have HB2 := Lib.hid hB2
        have HW2 := Lib.hid hbw2
        have hf := fun i => hB2.frozen i
        have lenR : rs.length = n + m - (p + 1) := HLR.out
        have HLR2 := Lib.hid lenR
        clear hdt hlt2 hE2 hB2 hbw2 lenR
        by_cases hj0 : j = 0
        · subst hj0
          have hp0 : p < (nC (List.replicate (p + 1) 0 ++ (rs.take 0 ++ ts))).length := by rw [nC_len]; simp; omega
          have c1 : wr.cell? ⟨w.heap.size, p, none⟩ = some (.int .u8 (((List.replicate (p + 1) 0 ++ (rs.take 0 ++ ts)).getD p 0 : Nat) : Int)) := by rw [HB2.out.cell]; exact nC_get _ _ (by rw [nC_len] at hp0; exact hp0)
          generalize (List.replicate (p + 1) 0 ++ (rs.take 0 ++ ts)).getD p 0 = old at c1
          clear hp0
          go_wp2
          go_roundw
          case rel =>
            refine ⟨p, c :: ts, rfl, by omega, Digs.cons (by omega) HDT.out, by rw [List.length_cons, HLT.out]; omega, ?_, ?_, ?_⟩
            · have h := HE2.out
              rw [List.drop_zero, List.drop_zero, Nat.sub_zero] at h
              rw [dVal_cons, HLT.out, HDP.out, dVal_cons, List.length_drop, HLA.out, Nat.sub_zero, Nat.add_mul, ← HE.out, Nat.mul_right_comm x]
              omega
            · have := HB2.out.set_ p (.int .u8 ((c : Nat) : Int))
              rw [nC_set] at this
              have e : (List.replicate (p + 1) 0 ++ (rs.take 0 ++ ts)).set p c = List.replicate p 0 ++ c :: ts := by
                rw [List.take_zero, List.nil_append, List.replicate_succ', List.append_assoc]
                exact set_mid _ _ _ _ _ (by simp)
              rw [e] at this
              exact this
            · exact HW2.out.setCell (p := ⟨w.heap.size, p, none⟩) (Nat.le_refl _) _
          case measure => simp [intOf]
        · obtain ⟨q, rfl⟩ : ∃ q, j = q + 1 := ⟨j - 1, by omega⟩
          have hy := getD_digs HDB.out q
          have hr := getD_digs HDR.out q
          have pos : p + q + 1 = (List.replicate (p + 1) 0 ++ rs.take q).length := by rw [List.length_append, List.length_replicate, List.length_take, HLR.out]; omega
          have spl : List.replicate (p + 1) 0 ++ (rs.take (q + 1) ++ ts) = (List.replicate (p + 1) 0 ++ rs.take q) ++ rs.getD q 0 :: ts := by
            rw [take_at rs q (by rw [HLR.out]; omega)]
            simp
          have c1 : wr.cell? ⟨w.heap.size, p + q + 1, none⟩ = some (.int .u8 (rs.getD q 0 : Int)) := by
            rw [HB2.out.cell, spl, nC_get _ _ (by rw [List.length_append, ← pos]; simp), get_mid _ _ _ _ pos]
          have c2 : wr.cell? ⟨ga, p, none⟩ = some (.int .u8 (x : Int)) := by
            rw [HW2.out.cell (p := ⟨ga, p, none⟩) LA, HA.out.cell, nC_get _ _ (by rw [HLA.out]; omega), HX.out]
          have c3 : wr.cell? ⟨gb, q, none⟩ = some (.int .u8 (lb.getD q 0 : Int)) := by
            rw [HW2.out.cell (p := ⟨gb, q, none⟩) LB, HB.out.cell, nC_get _ _ (by rw [HLB.out]; omega)]
          have ST := Lib.hid (mul_in (x := x) HLR.out HLB.out hk (by omega : q < m) HLT.out HE2.out)
          have SPL := Lib.hid spl
          have POS := Lib.hid pos
          generalize hyy : lb.getD q 0 = y at *
          generalize hrr : rs.getD q 0 = r at *
          clear hyy hrr spl pos
          have i0 : (0 : Int) ≤ (p : Int) := by omega
          have i1 : (p : Int) < (n : Int) := by omega
          have i2 : (0 : Int) ≤ (q : Int) := by omega
          have i3 : (q : Int) < (m : Int) := by omega
          have xy0 : (0 : Int) ≤ (x : Int) * (y : Int) := Int.mul_nonneg (by omega) (by omega)
          have xy1 : x * y ≤ 81 := Nat.mul_le_mul (show x ≤ 9 by omega) (show y ≤ 9 by omega)
          have xy2 : (x : Int) * (y : Int) ≤ 81 := by rw [← Int.natCast_mul]; omega
          have w1 : IntKind.i64.wrap ((p : Int) + (q : Int)) = (p : Int) + (q : Int) := IntWalk.i64_in _ (by omega)
          have w2 : IntKind.i64.wrap ((p : Int) + (q : Int) + 1) = (p : Int) + (q : Int) + 1 := IntWalk.i64_in _ (by omega)
          have w3 : (0 : Int) ≤ (p : Int) + (q : Int) + 1 := by omega
          have w4 : ((p : Int) + (q : Int) + 1).toNat = p + q + 1 := by omega
          have w5 : (p : Int) + (q : Int) + 1 < (n : Int) + (m : Int) := by omega
          have w6 : IntKind.u8.wrap ((x : Int) * (y : Int)) = (x : Int) * (y : Int) := IntWalk.u8_in _ ⟨xy0, by omega⟩
          have w7 : IntKind.u8.wrap ((r : Int) + (x : Int) * (y : Int)) = (r : Int) + (x : Int) * (y : Int) := IntWalk.u8_in _ ⟨by omega, by omega⟩
          have w8 : IntKind.u8.wrap ((r : Int) + (x : Int) * (y : Int) + (c : Int)) = (r : Int) + (x : Int) * (y : Int) + (c : Int) := IntWalk.u8_in _ ⟨by omega, by omega⟩
          go_wp2
          go_quiet (fail)
          clear w1 w2 w6 w7 w8
          go_wp2
          go_roundw
          case rel =>
            have hN : r + x * y + c ≤ 99 := by omega
            refine ⟨q, (r + x * y + c) / 10, (r + x * y + c) % 10 :: ts, by first | rfl | (congr 1), by congr 1, by omega, by omega, Digs.cons (by omega) HDT.out, by rw [List.length_cons, HLT.out]; omega, ST.out, ?_, ?_⟩
            · have := HB2.out.set_ (p + q + 1) (.int .u8 (((r + x * y + c) % 10 : Nat) : Int))
              rw [nC_set, SPL.out, set_mid _ _ _ _ _ POS.out, List.append_assoc] at this
              exact this
            · exact (HW2.out.setCell (p := ⟨w.heap.size, p + q + 1, none⟩) (Nat.le_refl _) _).trans ⟨rfl, rfl, rfl, Nat.le_refl _, fun _ _ => rfl⟩
          case measure => simp [intOf]
end Go.Proofs.Ytmaljkjcibdbgaa
