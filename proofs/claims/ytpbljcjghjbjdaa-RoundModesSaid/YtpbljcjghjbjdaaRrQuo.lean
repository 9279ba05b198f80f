/- The reference's quo of layer 3. -/
import Derived.Test.YtpbljcjghjbjdaaRrSub
namespace Go.Proofs.Ytpbljcjghjbjdaa
open Go.RowKit
attribute [local go_sem ↓] Go.wp_at_zero Go.wp_at_succ

theorem row_below {B : Nat} {v : Value} {l : List UInt8} {w w' : World} (h : Row B v l w) (hb : Below w.heap.size w w') : Row B v l w' := by
  rcases h.2 with ⟨rfl, h0⟩ | ⟨g, cap, cur, rfl, hBg, hg, hn, hm, hsz, htake⟩
  · exact ⟨h.1, .inl ⟨rfl, h0⟩⟩
  · exact ⟨h.1, .inr ⟨g, cap, cur, rfl, hBg, (hb.block g (Array.getElem?_eq_some_iff.1 hg).1).trans hg, hn, hm, hsz, htake⟩⟩

set_option maxHeartbeats 4000000 in
set_option maxRecDepth 100000 in
theorem rquo_any (la : List Nat) (y : Nat) (w : World) (h0 : 0 < y) (hda : Digs la) (hx : la.length ≤ 1000) (hy : (digs y).length ≤ 1000) :
    Calls Try.prog 37 #[.string (dStr la), .string (dStr (digs y))] w fun e w' => e = .returned (.tuple #[.string (dStr (digs (dVal la / y))), .string (dStr (digs (dVal la % y)))]) ∧ Below w.heap.size w w' := by
  have LY := digs_len y
  have room : ∀ R, R < 10 * y → (digs R).length ≤ 2000 := fun R hR => by
    have h1 := (digs_le y (digs y).length LY).1 (Nat.le_refl _)
    have h2 := (digs_le R ((digs y).length + 1) (by omega)).2 (by rw [Nat.pow_succ]; omega)
    omega
  have RO := Lib.hid room
  have DC : Hid (∀ (R : Nat) (wx : World), R < 10 * y → Calls Try.prog 64 #[.string (dStr (digs R)), .string (dStr (digs y))] wx fun r w' => r = .returned (.int .i64 (cmpN R y)) ∧ wx = w') :=
    fun R wx h => by
      have := rcmp_any (digs R) (digs y) wx (digs_digs R) (digs_digs y) (by have := RO.out R h; omega) (by omega)
      rw [dVal_digs, dVal_digs] at this
      exact this
  have DM : Hid (∀ (R : Nat) (wx : World), R < 10 * y → y ≤ R → Calls Try.prog 65 #[.string (dStr (digs R)), .string (dStr (digs y))] wx fun r w' => r = .returned (.string (dStr (digs (R - y)))) ∧ Below wx.heap.size wx w') :=
    fun R wx h h2 => rsub_any R y wx h2 (by have := RO.out R h; omega)
  have DL : Hid (∀ (k R : Nat) (wx : World) {X : ByteArray}, k < la.length → R < y → X = dStr (digs R) ++ (dStr la).extract k (k + 1) → Calls Try.prog 40 #[.string X] wx fun r w' => r = .returned (.string (dStr (digs (R * 10 + la.getD k 0)))) ∧ wx = w') := by
    intro k R wx X hk hR hX
    rw [hX, dStr_ext, one_of hk, dStr_append]
    have hd : Digs (digs R ++ [la.getD k 0]) := (digs_digs R).append (Digs.cons (getD_digs hda k) Digs.nil)
    have := rlead_any (digs R ++ [la.getD k 0]) wx hd (by have := RO.out R (by omega); rw [List.length_append]; simp; omega)
    rw [dVal_snoc, dVal_digs] at this
    exact this
  have DQ : Hid (∀ (qs : List Nat) (wx : World), Digs qs → qs.length ≤ 1000 → Calls Try.prog 40 #[.string (dStr qs)] wx fun r w' => r = .returned (.string (dStr (digs (dVal qs)))) ∧ wx = w') :=
    fun qs wx h h2 => rlead_any qs wx h (by omega)
  obtain ⟨x, hxv⟩ : ∃ x, x = dVal la := ⟨_, rfl⟩
  have HV := Lib.hid hxv.symm
  have HDX := Lib.hid hda
  have HTK : Hid (∀ k, k < la.length → dVal (la.take (k + 1)) = dVal (la.take k) * 10 + la.getD k 0) := fun k hk => by rw [take_at _ k hk, dVal_snoc]
  have RS : Hid (∀ R, R < 10 * y → (dStr (digs R)).size ≤ 2000) := fun R h => by rw [dStr_size]; exact RO.out R h
  have H0 := Lib.hid h0
  obtain ⟨n, hn⟩ : ∃ n, n = la.length := ⟨_, rfl⟩
  have hz : (dStr la).size = n := by rw [dStr_size, hn]
  rw [← hn] at DL HTK hx
  have HN := Lib.hid hn
  obtain ⟨S, hS⟩ : ∃ S, S = dStr la := ⟨_, rfl⟩
  obtain ⟨T, hT⟩ : ∃ T, T = dStr (digs y) := ⟨_, rfl⟩
  rw [← hS] at DL hz ⊢
  rw [← hT] at DC DM ⊢
  rw [← hxv]
  clear hS hT hn room hy h0 hxv hda
  go_enter Try.func37, Try.ntmps37
  go_wp2
  go_loopw [6, 7, 8] (fun qv rv iv wr => ∃ (k R : Nat) (qs : List Nat), iv = .int .i64 (k : Int) ∧ rv = .string (dStr (digs R)) ∧ Row w.heap.size qv (dB qs) wr ∧ k ≤ n ∧ Digs qs ∧ qs.length = k ∧ R < y ∧ dVal qs * y + R = dVal (la.take k) ∧ Below w.heap.size w wr) (fun _ _ iv _ => n - (intOf iv).toNat)
  case atStart => exact ⟨0, 0, [], rfl, congrArg Value.string txt0, Row.empty w, by omega, Digs.nil, rfl, H0.out, by rw [List.take_zero, dVal_nil]; omega, (Below.refl _ w).alloc (Nat.le_refl _) _⟩
  case round =>
    obtain ⟨k, R, qs, rfl, rfl, hrow, hk, hqs, hlq, hR, hE, hbw⟩ := hrel
    have HROW := Lib.hid hrow
    clear hrow
    have HQS := Lib.hid hqs
    have HLQ := Lib.hid hlq
    have HR := Lib.hid hR
    have HE := Lib.hid hE
    have HW := Lib.hid hbw
    clear hqs hlq hR hE hbw
    by_cases hlt : k < n
    · have hd := getD_digs HDX.out k
      have HT := Lib.hid (HTK.out k hlt)
      have DL2 := Lib.hid (fun wx {X} => DL.out k R wx (X := X) hlt HR.out)
      generalize la.getD k 0 = d at *
      have g0 := RS.out R (by have := HR.out; omega)
      have g1 : ¬ 9223372036854775807 < (dStr (digs R)).size + 1 := by omega
      have e1 : IntKind.i64.wrap ((k : Int) + 1) = (k : Int) + 1 := IntWalk.i64_in _ (by omega)
      have i1 : (k : Int) ≤ (k : Int) + 1 := by omega
      have i2 : (k : Int) + 1 ≤ (n : Int) := by omega
      have i3 : 0 ≤ (k : Int) := by omega
      have i4 : 0 ≤ (k : Int) + 1 := by omega
      have i5 : ((k : Int) + 1).toNat = k + 1 := by omega
      have sx : (S.extract k (k + 1)).size = 1 := by rw [ByteArray.size_extract, hz]; omega
      go_wp2_with fail
      (with_reducible refine (DL2.out _ ?_).mono ?_)
      · rfl
      rintro e w4 ⟨rfl, rfl⟩
      clear g1 i1 i2 i4 i5 sx e1
      go_wp2
      go_loopw [7, 9] (fun rv cv wx => ∃ c R2 : Nat, rv = .string (dStr (digs R2)) ∧ cv = .int .u8 (48 + (c : Int)) ∧ c ≤ 9 ∧ c * y + R2 = R * 10 + d ∧ Row w.heap.size u6 (dB qs) wx ∧ Below w.heap.size w wx) (fun _ cv _ => 58 - (intOf cv).toNat)
      case atStart => exact ⟨0, R * 10 + d, rfl, rfl, by omega, by omega, HROW.out, HW.out⟩
      case round =>
        obtain ⟨c, R2, rfl, rfl, hc, hE2, hrow2, hbw2⟩ := hrel
        have HROW2 := Lib.hid hrow2
        clear hrow2
        have HE2 := Lib.hid hE2
        have HW2 := Lib.hid hbw2
        have HR2 : Hid (R2 < 10 * y) := by have := HR.out; show _ < _; omega
        clear hE2 hbw2
        have DC2 := Lib.hid (fun wx => DC.out R2 wx HR2.out)
        by_cases hle : y ≤ R2
        · have q : decide (0 ≤ cmpN R2 y) = true := decide_eq_true (by unfold cmpN; repeat' split; all_goals omega)
          have hc8 : c + 1 ≤ 9 := by
            have h1 := HE2.out
            have h2 := HR.out
            have h3 : (c + 1) * y = c * y + y := Nat.succ_mul _ _
            rcases Nat.lt_or_ge 9 (c + 1) with h4 | h4
            · have : 10 * y ≤ (c + 1) * y := Nat.mul_le_mul_right _ h4
              omega
            · exact h4
          have DM2 := Lib.hid (fun wx => DM.out R2 wx HR2.out hle)
          have HLE := Lib.hid hle
          generalize cmpN R2 y = cc at *
          have e1 : IntKind.u8.wrap (48 + (c : Int) + 1) = 48 + (c : Int) + 1 := IntWalk.u8_in _ ⟨by omega, by omega⟩
          clear hle
          go_wp2_with fail
          (with_reducible refine (DC2.out _).mono ?_)
          rintro e w5 ⟨rfl, rfl⟩
          go_wp2_with fail
          (with_reducible refine (DM2.out _).mono ?_)
          rintro e w6 ⟨rfl, hb6⟩
          have HW6 := Lib.hid (HW2.out.trans (hb6.mono HW2.out.size))
          have HROW6 := Lib.hid (row_below HROW2.out hb6)
          clear hb6
          go_wp2
          go_roundw
          case rel => exact ⟨c + 1, R2 - y, rfl, by first | (congr 1; done) | (congr 1; omega), hc8, by have := HE2.out; have := HLE.out; rw [Nat.succ_mul]; omega, HROW6.out, HW6.out⟩
          case measure => simp [intOf]; omega
        · have q : decide (0 ≤ cmpN R2 y) = false := decide_eq_false (by unfold cmpN; repeat' split; all_goals omega)
          have HLE := Lib.hid hle
          generalize cmpN R2 y = cc at *
          obtain ⟨nb, hnb⟩ : ∃ nb, nb = [(48 + c).toUInt8] := ⟨_, rfl⟩
          have BC : Hid (Lib.byteCells nb = [.int .u8 ((48 + c : Nat) : Int)]) := by show _ = _; rw [hnb]; exact byte_of (by omega)
          have BN : Hid (dB (qs ++ [c]) = dB qs ++ nb) := by show _ = _; rw [hnb]; exact dB_snoc qs c
          have BL : Hid (1 = nb.length) := by show _ = _; rw [hnb]; rfl
          have QL : Hid ((dB qs).length = k) := by show _ = _; rw [dB_len]; exact HLQ.out
          clear hle hnb
          go_wp2_with fail
          (with_reducible refine (DC2.out _).mono ?_)
          rintro e w5 ⟨rfl, rfl⟩
          go_wp2_with (at_builtin; go_loud (refine wp_append_new (w := wr) rfl _ _ rfl w.heap.size u6 (dB qs) rfl HROW2.out nb _ 1 rfl BL.out (by first | (rw [BC.out]; done) | (rw [BC.out]; rfl)) (by rw [QL.out]; omega) (by have := HW2.out.size; omega) ?_))
          intro v5 W5 hR5 hb5
          have HR5 := Lib.hid hR5
          have HW5 := Lib.hid (HW2.out.trans (hb5.mono (Nat.le_refl _)))
          clear hR5 hb5
          go_wp2
          go_roundw
          case rel => exact ⟨k + 1, R2, qs ++ [c], by go_num, rfl, by rw [BN.out]; exact HR5.out, by omega, HQS.out.append (Digs.cons (by omega) Digs.nil), by rw [List.length_append, HLQ.out]; rfl, by have := HLE.out; omega, by
            have h1 := HE2.out
            have h2 := HE.out
            rw [HT.out, dVal_snoc, ← h2, Nat.add_mul, Nat.add_mul, Nat.mul_right_comm]
            omega, HW5.out⟩
          case measure => simp [intOf]; omega
    · obtain rfl : k = n := by omega
      have HF : Hid (dVal qs = x / y ∧ R = x % y) := by
        have h1 := HE.out
        rw [List.take_of_length_le (Nat.le_of_eq HN.out.symm), HV.out] at h1
        exact over_end h1 HR.out
      have DQ2 := Lib.hid (fun wx => DQ.out qs wx HQS.out (by have := HLQ.out; omega))
      rw [HF.out.1] at DQ2
      obtain ⟨QS, hQS⟩ : ∃ QS, QS = dStr qs := ⟨_, rfl⟩
      rw [← hQS] at DQ2
      have kc : (convert 70 9 u6).run Try.prog wr = .ok (.string QS) wr := by rw [row_string HROW.out, hQS]; rfl
      clear hQS
      go_wp2_with fail
      (with_reducible refine (DQ2.out _).mono ?_)
      rintro e w5 ⟨rfl, rfl⟩
      go_wp2
      exact bodyPost_ret (v := .tuple #[.string (dStr (digs (x / y))), .string (dStr (digs R))]) (by simp [results, Try.results37, go_sem]) rfl ⟨by rw [HF.out.2], HW.out⟩
end Go.Proofs.Ytpbljcjghjbjdaa
