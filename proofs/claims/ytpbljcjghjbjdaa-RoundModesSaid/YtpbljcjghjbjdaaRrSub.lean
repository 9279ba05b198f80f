/- The reference's sub of layer 3. -/
import Derived.Test.YtpbljcjghjbjdaaRrCmp
namespace Go.Proofs.Ytpbljcjghjbjdaa
open Go.RowKit
attribute [local go_sem ↓] Go.wp_at_zero Go.wp_at_succ

theorem zero_cons (l : List Nat) : (⟨#[48]⟩ : ByteArray) ++ dStr l = dStr (0 :: l) := by
  rw [show (⟨#[48]⟩ : ByteArray) = dStr [0] from rfl, dStr_append]
  rfl
theorem rep_len (j : Nat) (l : List Nat) : (List.replicate j 0 ++ l).length = j + l.length := by simp
theorem rep_val (j : Nat) (l : List Nat) : dVal (List.replicate j 0 ++ l) = dVal l := by rw [dVal_append, dVal_zeros]; omega
theorem text_at (l : List Nat) (h : Digs l) (S : ByteArray) (hS : S = dStr l) (k : Nat) (hk : k < S.size) : (S[k]'hk).toNat = 48 + l.getD k 0 := by subst hS; exact dStr_get l h k hk

set_option maxHeartbeats 4000000 in
set_option maxRecDepth 100000 in
theorem rsub_any (x y : Nat) (w : World) (h : y ≤ x) (hx : (digs x).length ≤ 100000) :
    Calls Try.prog 65 #[.string (dStr (digs x)), .string (dStr (digs y))] w fun r w' => r = .returned (.string (dStr (digs (x - y)))) ∧ Below w.heap.size w w' := by
  have L1 := digs_len x
  obtain ⟨n, hn⟩ : ∃ n, n = (digs x).length := ⟨_, rfl⟩
  obtain ⟨m, hm⟩ : ∃ m, m = (digs y).length := ⟨_, rfl⟩
  have hmn : m ≤ n := by
    rw [hm, hn]
    exact (digs_le y _ L1).2 (Nat.lt_of_le_of_lt h ((digs_le x _ L1).1 (Nat.le_refl _)))
  have HXV := Lib.hid (dVal_digs x)
  have HYV := Lib.hid (dVal_digs y)
  have HDX := Lib.hid (digs_digs x)
  have HDY := Lib.hid (digs_digs y)
  have HLX := Lib.hid hn.symm
  have HLQ := Lib.hid hm.symm
  have HH := Lib.hid h
  rw [← hn] at hx L1
  have hzx : (dStr (digs x)).size = n := by rw [dStr_size, hn]
  obtain ⟨S, hS⟩ : ∃ S, S = dStr (digs x) := ⟨_, rfl⟩
  have HSX := Lib.hid hS
  rw [← hS] at hzx ⊢
  obtain ⟨Z, hZ⟩ : ∃ Z, Z = (nC (List.replicate n 0)).toArray := ⟨_, rfl⟩
  have hmk := fun w => make_bytes n (by omega) w Z hZ
  have K0 := Lib.hid (Blk.new w (nC (List.replicate n 0)) Z hZ)
  have B0 := Lib.hid ((Below.refl _ w).alloc (Nat.le_refl _) (.cells Z 5))
  clear hZ hS hn hm h
  generalize digs x = la at *
  generalize hgy : digs y = lq at *
  clear hgy
  go_enter Try.func65, Try.ntmps65
  go_wp2
  go_loop [1] (fun v => ∃ j : Nat, v = .string (dStr (List.replicate j 0 ++ lq)) ∧ (j = 0 ∨ j + m ≤ n)) (fun v => n - sizeOfStr v)
  case atStart => exact ⟨0, by first | rfl | exact congrArg Value.string HTT.out, .inl rfl⟩
  case round =>
    obtain ⟨j, rfl, hj⟩ := hrel
    have HJ := Lib.hid hj
    have hzj : (dStr (List.replicate j 0 ++ lq)).size = j + m := by rw [dStr_size, rep_len, HLQ.out]
    have zc := zero_cons (List.replicate j 0 ++ lq)
    have HZC := Lib.hid zc
    clear zc hj
    obtain ⟨X, hX⟩ : ∃ X, X = dStr (List.replicate j 0 ++ lq) := ⟨_, rfl⟩
    rw [← hX] at hzj HZC
    by_cases hlt : j + m < n
    · have HXX := Lib.hid hX
      have q : decide ((j : Int) + (m : Int) < (n : Int)) = true := decide_eq_true (by omega)
      have q' : decide (((j + m : Nat) : Int) < (n : Int)) = true := decide_eq_true (by omega)
      have q'' : decide (j + m < n) = true := decide_eq_true hlt
      have g1 : ¬ 9223372036854775807 < 1 + (j + m) := by omega
      rw [← hX]
      clear hX
      go_wp2
      go_round
      case rel => exact ⟨j + 1, by rw [HZC.out]; rfl, .inr (by omega)⟩
      case measure => have s1 : (⟨#[48]⟩ : ByteArray).size = 1 := rfl; simp [sizeOfStr, hzj, s1]; omega
    · have q : decide ((j : Int) + (m : Int) < (n : Int)) = false := decide_eq_false (by omega)
      have q' : decide (((j + m : Nat) : Int) < (n : Int)) = false := decide_eq_false (by omega)
      have q'' : decide (j + m < n) = false := decide_eq_false hlt
      have hjn : j + m = max m n := by have := HJ.out; omega
      obtain ⟨lp, hlp⟩ : ∃ lp, lp = List.replicate j 0 ++ lq := ⟨_, rfl⟩
      rw [← hlp] at hX
      have HLP : Hid (lp.length = n) := by show _ = _; rw [hlp, rep_len, HLQ.out]; omega
      have HLPV : Hid (dVal lp = y) := by show _ = _; rw [hlp, rep_val]; exact HYV.out
      have HLPD : Hid (Digs lp) := by show Digs lp; rw [hlp]; exact (Digs.zeros j).append HDY.out
      have HXT := Lib.hid hX
      have hzX : X.size = n := by omega
      have e1 : IntKind.i64.wrap ((n : Int) - 1) = (n : Int) - 1 := IntWalk.i64_in _ (by omega)
      try rw [← hlp]
      rw [← hX]
      clear hX hlp q q' q'' hjn hzj HZC HJ hlt
      go_wp2
      go_loopw [6, 7] (fun cv iv wr => ∃ (k c : Nat) (rs : List Nat), iv = .int .i64 ((k : Int) - 1) ∧ cv = .int .i64 (c : Int) ∧ c ≤ 1 ∧ k ≤ n ∧ Digs rs ∧ rs.length = n - k ∧ dVal rs + dVal (lp.drop k) = dVal (la.drop k) + c * 10 ^ (n - k) ∧ Blk wr w.heap.size (nC (List.replicate k 0 ++ rs.map (48 + ·))) ∧ Below w.heap.size w wr) (fun _ iv _ => (intOf iv + 1).toNat)
      case atStart =>
        refine ⟨n, 0, [], by go_num, rfl, by omega, by omega, Digs.nil, by simp, ?_, ?_, B0.out⟩
        · rw [List.drop_eq_nil_of_le (Nat.le_of_eq HLX.out), List.drop_eq_nil_of_le (Nat.le_of_eq HLP.out), dVal_nil]; simp
        · simpa using K0.out
      case round =>
        obtain ⟨k, c, rs, rfl, rfl, hc, hk, hdr, hlr, hE, hB, hbw⟩ := hrel
        have HDR := Lib.hid hdr
        have HLR := Lib.hid hlr
        have HE := Lib.hid hE
        have HBK := Lib.hid hB
        have HW := Lib.hid hbw
        have hf := fun i => hB.frozen i
        clear hdr hlr hE hB hbw
        by_cases hk0 : k = 0
        · subst hk0
          have HR : Hid (dVal rs = x - y) := by
            have h1 := HE.out
            simp only [List.drop_zero, Nat.sub_zero] at h1
            rw [HLPV.out, HXV.out] at h1
            have h2 := HH.out
            have h4 := dVal_lt HDR.out
            rw [HLR.out, Nat.sub_zero] at h4
            have h3 : c = 0 := by
              rcases Nat.eq_zero_or_pos c with h | h
              · exact h
              · have : 1 * 10 ^ n ≤ c * 10 ^ n := Nat.mul_le_mul_right _ h
                omega
            subst h3
            show _ = _
            omega
          have HBB : Hid (Blk wr w.heap.size (Lib.byteCells (dB rs))) := by
            show Blk _ _ _
            rw [byte_cells_of _ HDR.out]
            simpa using HBK.out
          have hrl : rs.length = n := by rw [HLR.out, Nat.sub_zero]
          obtain ⟨T, hT⟩ : ∃ T, T = dStr rs := ⟨_, rfl⟩
          have kc := blk_stringQ wr w.heap.size rs rs 0 n n T hT HBB.out (by rw [List.drop_zero, List.take_of_length_le (Nat.le_of_eq hrl)]) (by omega)
          have DL : Hid (∀ wx : World, Calls Try.prog 40 #[.string T] wx fun r w' => r = .returned (.string (dStr (digs (x - y)))) ∧ wx = w') := fun wx => by
            rw [hT, ← HR.out]
            exact rlead_any rs wx HDR.out (by omega)
          clear hT hrl
          go_wp2_with fail
          (with_reducible refine (DL.out _).mono ?_)
          rintro e w4 ⟨rfl, rfl⟩
          go_wp2
          go_ret
          exact ⟨rfl, HW.out⟩
        · obtain ⟨p, rfl⟩ : ∃ p, k = p + 1 := ⟨k - 1, by omega⟩
          have pos : p = (List.replicate p 0).length := by simp
          have spl : List.replicate (p + 1) 0 ++ rs.map (48 + ·) = List.replicate p 0 ++ 0 :: rs.map (48 + ·) := by rw [List.replicate_succ', List.append_assoc]; rfl
          have hxd := getD_digs HDX.out p
          have hyd := getD_digs HLPD.out p
          have c1 : wr.cell? ⟨w.heap.size, p, none⟩ = some (.int .u8 ((0 : Nat) : Int)) := by
            rw [HBK.out.cell, spl, nC_get _ _ (by simp), get_mid _ _ _ _ pos]
          have hpS : p < S.size := by omega
          have hpX : p < X.size := by omega
          have t1 := text_at la HDX.out S HSX.out p hpS
          have t2 := text_at lp HLPD.out X HXT.out p hpX
          have ST := Lib.hid (fun d e => sub_step (d := d) (e := e) HLX.out HLP.out (show p < n by omega) HLR.out HE.out)
          have SPL := Lib.hid spl
          have POS := Lib.hid pos
          generalize la.getD p 0 = a at *
          generalize lp.getD p 0 = b at *
          clear spl pos
          have w1 : IntKind.i64.wrap (((S[p]'hpS).toNat : Int)) = 48 + (a : Int) := by rw [t1, IntWalk.i64_in _ (by omega)]; omega
          have w2 : IntKind.i64.wrap (((X[p]'hpX).toNat : Int)) = 48 + (b : Int) := by rw [t2, IntWalk.i64_in _ (by omega)]; omega
          have w3 : IntKind.i64.wrap (48 + (a : Int) - (48 + (b : Int))) = (a : Int) - (b : Int) := by rw [IntWalk.i64_in _ (by omega)]; omega
          have w4 : IntKind.i64.wrap ((a : Int) - (b : Int) - (c : Int)) = (a : Int) - (b : Int) - (c : Int) := IntWalk.i64_in _ (by omega)
          have i0 : (0 : Int) ≤ (p : Int) := by omega
          have i1 : (p : Int) < (n : Int) := by omega
          clear t1 t2
          by_cases hlow : a < b + c
          · obtain ⟨z, hz2⟩ : ∃ z, z + b + c = a + 10 := ⟨a + 10 - b - c, by omega⟩
            have q : decide ((a : Int) - (b : Int) - (c : Int) < 0) = true := decide_eq_true (by omega)
            have e3 : IntKind.i64.wrap ((a : Int) - (b : Int) - (c : Int) + 10) = (z : Int) := by rw [IntWalk.i64_in _ (by omega)]; omega
            have e4 : IntKind.i64.wrap (48 + (z : Int)) = 48 + (z : Int) := IntWalk.i64_in _ (by omega)
            have e5 : IntKind.u8.wrap (48 + (z : Int)) = 48 + (z : Int) := IntWalk.u8_in _ ⟨by omega, by omega⟩
            have hz9 : z < 10 := by omega
            have ST2 := Lib.hid (ST.out z 1 (by omega))
            clear hz2 ST
            go_wp2
            go_region
            go_wp2
            go_roundw
            case rel =>
              refine ⟨p, 1, z :: rs, rfl, rfl, by omega, by omega, Digs.cons hz9 HDR.out, by rw [List.length_cons, HLR.out]; omega, ST2.out, ?_, ?_⟩
              · have := HBK.out.set_ p (.int .u8 ((48 + z : Nat) : Int))
                rw [nC_set, SPL.out, set_mid _ _ _ _ _ POS.out] at this
                exact this
              · exact (HW.out.setCell (p := ⟨w.heap.size, p, none⟩) (Nat.le_refl _) _).trans ⟨rfl, rfl, rfl, Nat.le_refl _, fun _ _ => rfl⟩
            case measure => simp [intOf]
          · obtain ⟨z, hz2⟩ : ∃ z, z + b + c = a := ⟨a - b - c, by omega⟩
            have e3 : (a : Int) - (b : Int) - (c : Int) = (z : Int) := by omega
            have q : decide ((z : Int) < 0) = false := decide_eq_false (by omega)
            have e4 : IntKind.i64.wrap (48 + (z : Int)) = 48 + (z : Int) := IntWalk.i64_in _ (by omega)
            have e5 : IntKind.u8.wrap (48 + (z : Int)) = 48 + (z : Int) := IntWalk.u8_in _ ⟨by omega, by omega⟩
            have hz9 : z < 10 := by omega
            have ST2 := Lib.hid (ST.out z 0 (by omega))
            clear hz2 ST
            go_wp2
            go_region
            go_wp2
            go_roundw
            case rel =>
              refine ⟨p, 0, z :: rs, rfl, rfl, by omega, by omega, Digs.cons hz9 HDR.out, by rw [List.length_cons, HLR.out]; omega, ST2.out, ?_, ?_⟩
              · have := HBK.out.set_ p (.int .u8 ((48 + z : Nat) : Int))
                rw [nC_set, SPL.out, set_mid _ _ _ _ _ POS.out] at this
                exact this
              · exact (HW.out.setCell (p := ⟨w.heap.size, p, none⟩) (Nat.le_refl _) _).trans ⟨rfl, rfl, rfl, Nat.le_refl _, fun _ _ => rfl⟩
            case measure => simp [intOf]
end Go.Proofs.Ytpbljcjghjbjdaa
