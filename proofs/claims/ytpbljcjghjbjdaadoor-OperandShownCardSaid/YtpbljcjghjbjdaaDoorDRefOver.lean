/- The reference's Over. -/
import Derived.Test.YtpbljcjghjbjdaaDoorDRefMinus
import Derived.Test.YtpbljcjghjbjdaaDoorDRefCmp
namespace Go.Proofs.YtpbljcjghjbjdaaDoor
open Go.RowKit
attribute [local go_sem ↓] Go.wp_at_zero Go.wp_at_succ

theorem fresh_string (w : World) (l : List UInt8) (cs : Array Value) (n : Nat) (hcs : cs = (Lib.byteCells l).toArray) (hn : n = l.length) (hm : n ≤ maxLen) :
    (convert 76 9 (.slice (some ⟨w.heap.size, 0, none⟩) n n)).run Tryd.prog (w.alloc (.cells cs 5)) = .ok (.string ⟨l.toArray⟩) (w.alloc (.cells cs 5)) := by
  refine row_string (B := w.heap.size) ?_
  unfold Row
  have h := World.ownsRow_lit (base := w.heap.size) (e := 5) (size := 1) w cs n (Nat.le_refl _) hm (by rw [hcs, hn]; simp [Lib.byteCells])
  rw [← hn]
  have e : cs.toList = Lib.byteCells l := by rw [hcs]
  rw [← e]
  exact h
/-- A text of one digit that was just made. -/
theorem digit_string (w : World) (c : Nat) (hc : c < 10) (T : ByteArray) (hT : T = dStr [c]) :
    (convert 76 9 (.slice (some ⟨w.heap.size, 0, none⟩) 1 1)).run Tryd.prog (w.alloc (.cells #[.int .u8 (48 + (c : Int))] 5)) = .ok (.string T) (w.alloc (.cells #[.int .u8 (48 + (c : Int))] 5)) := by
  have := fresh_string w [(48 + c).toUInt8] #[.int .u8 (48 + (c : Int))] 1 (by rw [byte_of hc]; simp) rfl (by decide)
  rw [this, hT]
  rfl
theorem txt0 : (⟨#[48]⟩ : ByteArray) = dStr (digs 0) := by unfold digs; rw [digsR_small (by omega)]; rfl
theorem one_of {l : List Nat} {k : Nat} (h : k < l.length) : (l.take (k + 1)).drop k = [l.getD k 0] := by
  rw [take_at l k h, List.drop_append_of_le_length (by rw [List.length_take]; omega), List.drop_eq_nil_of_le (by rw [List.length_take]; omega)]
  rfl

set_option maxHeartbeats 4000000 in
set_option maxRecDepth 100000 in
theorem refOver_any (x y : Nat) (w : World) (h0 : 0 < y) (hx : (digs x).length ≤ 1000) (hy : (digs y).length ≤ 1000) :
    Calls Tryd.prog 146 #[.string (dStr (digs x)), .string (dStr (digs y))] w fun e w' => e = .returned (.tuple #[.string (dStr (digs (x / y))), .string (dStr (digs (x % y)))]) ∧ Below w.heap.size w w' := by
  have LY := digs_len y
  have room : ∀ R, R < 10 * y → (digs R).length ≤ 2000 := fun R hR => by
    have h1 := (digs_le y (digs y).length LY).1 (Nat.le_refl _)
    have h2 := (digs_le R ((digs y).length + 1) (by omega)).2 (by rw [Nat.pow_succ]; omega)
    omega
  have RO := Lib.hid room
  have DC : Hid (∀ (R : Nat) (wx : World), R < 10 * y → Calls Tryd.prog 44 #[.string (dStr (digs R)), .string (dStr (digs y))] wx fun r w' => r = .returned (.int .i64 (cmpN R y)) ∧ wx = w') :=
    fun R wx h => refCmp_any R y wx (by have := RO.out R h; omega) (by omega)
  have DM : Hid (∀ (R : Nat) (wx : World), R < 10 * y → y ≤ R → Calls Tryd.prog 178 #[.string (dStr (digs R)), .string (dStr (digs y))] wx fun r w' => r = .returned (.string (dStr (digs (R - y)))) ∧ Below wx.heap.size wx w') :=
    fun R wx h h2 => refMinus_any R y wx h2 (by have := RO.out R h; omega) (by omega)
  have DL : Hid (∀ (k R : Nat) (wx : World) {X : ByteArray}, k < (digs x).length → R < y → X = dStr (digs R) ++ (dStr (digs x)).extract k (k + 1) → Calls Tryd.prog 147 #[.string X] wx fun r w' => r = .returned (.string (dStr (digs (R * 10 + (digs x).getD k 0)))) ∧ wx = w') := by
    intro k R wx X hk hR hX
    rw [hX, dStr_ext, one_of hk, dStr_append]
    have hd : Digs (digs R ++ [(digs x).getD k 0]) := (digs_digs R).append (Digs.cons (getD_digs (digs_digs x) k) Digs.nil)
    have := refLead_any (digs R ++ [(digs x).getD k 0]) wx hd (by have := RO.out R (by omega); rw [List.length_append]; simp; omega)
    rw [dVal_snoc, dVal_digs] at this
    exact this
  have DQ : Hid (∀ (qs : List Nat) (wx : World), Digs qs → qs.length ≤ 1000 → Calls Tryd.prog 147 #[.string (dStr qs)] wx fun r w' => r = .returned (.string (dStr (digs (dVal qs)))) ∧ wx = w') :=
    fun qs wx h h2 => refLead_any qs wx h (by omega)
  have HV := Lib.hid (dVal_digs x)
  have HDX := Lib.hid (digs_digs x)
  have HTK : Hid (∀ k, k < (digs x).length → dVal ((digs x).take (k + 1)) = dVal ((digs x).take k) * 10 + (digs x).getD k 0) := fun k hk => by rw [take_at _ k hk, dVal_snoc]
  have RS : Hid (∀ R, R < 10 * y → (dStr (digs R)).size ≤ 2000) := fun R h => by rw [dStr_size]; exact RO.out R h
  have H0 := Lib.hid h0
  obtain ⟨n, hn⟩ : ∃ n, n = (digs x).length := ⟨_, rfl⟩
  have hz : (dStr (digs x)).size = n := by rw [dStr_size, hn]
  rw [← hn] at DL HTK hx
  have HN := Lib.hid hn
  obtain ⟨S, hS⟩ : ∃ S, S = dStr (digs x) := ⟨_, rfl⟩
  obtain ⟨T, hT⟩ : ∃ T, T = dStr (digs y) := ⟨_, rfl⟩
  rw [← hS] at DL hz ⊢
  rw [← hT] at DC DM ⊢
  clear hS hT hn room hy h0
  generalize digs x = la at *
  go_enter Tryd.func146, Tryd.ntmps146
  go_wp2
  go_loopw [6, 7, 8] (fun qv rv iv wr => ∃ (k R : Nat) (qs : List Nat), iv = .int .i64 (k : Int) ∧ rv = .string (dStr (digs R)) ∧ qv = .string (dStr qs) ∧ k ≤ n ∧ Digs qs ∧ qs.length = k ∧ R < y ∧ dVal qs * y + R = dVal (la.take k) ∧ Below w.heap.size w wr) (fun _ _ iv _ => n - (intOf iv).toNat)
  case atStart => exact ⟨0, 0, [], rfl, congrArg Value.string txt0, rfl, by omega, Digs.nil, rfl, H0.out, by rw [List.take_zero, dVal_nil]; omega, Below.refl _ _⟩
  case round =>
    obtain ⟨k, R, qs, rfl, rfl, rfl, hk, hqs, hlq, hR, hE, hbw⟩ := hrel
    have HQS := Lib.hid hqs
    have HLQ := Lib.hid hlq
    have HR := Lib.hid hR
    have HE := Lib.hid hE
    have HW := Lib.hid hbw
    clear hqs hlq hR hE hbw
    by_cases hlt : k < n
    · have hd := getD_digs HDX.out k
      have HT := Lib.hid (HTK.out k hlt)
      have DL2 := Lib.hid (fun wx {X} => DL.out k R wx (X := X) hlt HR.out)
      generalize la.getD k 0 = d at *
      have g0 := RS.out R (by have := HR.out; omega)
      have g1 : ¬ 9223372036854775807 < (dStr (digs R)).size + 1 := by omega
      have e1 : IntKind.i64.wrap ((k : Int) + 1) = (k : Int) + 1 := IntWalk.i64_in _ (by omega)
      have i1 : (k : Int) ≤ (k : Int) + 1 := by omega
      have i2 : (k : Int) + 1 ≤ (n : Int) := by omega
      have i3 : 0 ≤ (k : Int) := by omega
      have i4 : 0 ≤ (k : Int) + 1 := by omega
      have i5 : ((k : Int) + 1).toNat = k + 1 := by omega
      have sx : (S.extract k (k + 1)).size = 1 := by rw [ByteArray.size_extract, hz]; omega
      go_wp2_with fail
      (with_reducible refine (DL2.out _ ?_).mono ?_)
      · rfl
      rintro e w4 ⟨rfl, rfl⟩
      clear g1 i1 i2 i4 i5 sx e1
      go_wp2
      go_loopw [7, 9] (fun rv cv wx => ∃ c R2 : Nat, rv = .string (dStr (digs R2)) ∧ cv = .int .i64 (c : Int) ∧ c ≤ 9 ∧ c * y + R2 = R * 10 + d ∧ Below w.heap.size w wx) (fun _ cv _ => 10 - (intOf cv).toNat)
      case atStart => exact ⟨0, R * 10 + d, rfl, rfl, by omega, by omega, HW.out⟩
      case round =>
        obtain ⟨c, R2, rfl, rfl, hc, hE2, hbw2⟩ := hrel
        have HE2 := Lib.hid hE2
        have HW2 := Lib.hid hbw2
        have HR2 : Hid (R2 < 10 * y) := by have := HR.out; show _ < _; omega
        clear hE2 hbw2
        have DC2 := Lib.hid (fun wx => DC.out R2 wx HR2.out)
        by_cases hle : y ≤ R2
        · have q : decide (0 ≤ cmpN R2 y) = true := decide_eq_true (by unfold cmpN; repeat' split; all_goals omega)
          have hc8 : c + 1 ≤ 9 := by
            have h1 := HE2.out
            have h2 := HR.out
            have h3 : (c + 1) * y = c * y + y := Nat.succ_mul _ _
            rcases Nat.lt_or_ge 9 (c + 1) with h4 | h4
            · have : 10 * y ≤ (c + 1) * y := Nat.mul_le_mul_right _ h4
              omega
            · exact h4
          have DM2 := Lib.hid (fun wx => DM.out R2 wx HR2.out hle)
          have HLE := Lib.hid hle
          generalize cmpN R2 y = cc at *
          have e1 : IntKind.i64.wrap ((c : Int) + 1) = (c : Int) + 1 := IntWalk.i64_in _ (by omega)
          clear hle
          go_wp2_with fail
          (with_reducible refine (DC2.out _).mono ?_)
          rintro e w5 ⟨rfl, rfl⟩
          go_wp2_with fail
          (with_reducible refine (DM2.out _).mono ?_)
          rintro e w6 ⟨rfl, hb6⟩
          have HW6 := Lib.hid (HW2.out.trans (hb6.mono HW2.out.size))
          clear hb6
          go_wp2
          go_roundw
          case rel => exact ⟨c + 1, R2 - y, rfl, by go_num, hc8, by have := HE2.out; have := HLE.out; rw [Nat.succ_mul]; omega, HW6.out⟩
          case measure => simp [intOf]; omega
        · have q : decide (0 ≤ cmpN R2 y) = false := decide_eq_false (by unfold cmpN; repeat' split; all_goals omega)
          have HLE := Lib.hid hle
          generalize cmpN R2 y = cc at *
          obtain ⟨C, hC⟩ : ∃ C, C = dStr [c] := ⟨_, rfl⟩
          have hcz : C.size = 1 := by rw [hC]; rfl
          have kc := fun wx => digit_string wx c (by omega) C hC
          have HC := Lib.hid hC
          have e4 : IntKind.i64.wrap (48 + (c : Int)) = 48 + (c : Int) := IntWalk.i64_in _ (by omega)
          have e5 : IntKind.u8.wrap (48 + (c : Int)) = 48 + (c : Int) := IntWalk.u8_in _ ⟨by omega, by omega⟩
          have qz : (dStr qs).size = k := by rw [dStr_size]; exact HLQ.out
          have g1 : ¬ 9223372036854775807 < k + 1 := by omega
          clear hle hC
          go_wp2_with fail
          (with_reducible refine (DC2.out _).mono ?_)
          rintro e w5 ⟨rfl, rfl⟩
          go_wp2
          go_roundw
          case rel => exact ⟨k + 1, R2, qs ++ [c], by go_num, rfl, by rw [HC.out, dStr_append], by omega, HQS.out.append (Digs.cons (by omega) Digs.nil), by rw [List.length_append, HLQ.out]; rfl, by have := HLE.out; omega, by
            have h1 := HE2.out
            have h2 := HE.out
            rw [HT.out, dVal_snoc, ← h2, Nat.add_mul, Nat.add_mul, Nat.mul_right_comm]
            omega, HW2.out.alloc HW2.out.size _⟩
          case measure => simp [intOf]; omega
    · obtain rfl : k = n := by omega
      have HF : Hid (dVal qs = x / y ∧ R = x % y) := by
        have h1 := HE.out
        rw [List.take_of_length_le (Nat.le_of_eq HN.out.symm), HV.out] at h1
        exact over_end h1 HR.out
      have DQ2 := Lib.hid (fun wx => DQ.out qs wx HQS.out (by have := HLQ.out; omega))
      rw [HF.out.1] at DQ2
      go_wp2_with fail
      (with_reducible refine (DQ2.out _).mono ?_)
      rintro e w5 ⟨rfl, rfl⟩
      go_wp2
      exact bodyPost_ret (v := .tuple #[.string (dStr (digs (x / y))), .string (dStr (digs R))]) (by simp [results, Tryd.results146, go_sem]) rfl ⟨by rw [HF.out.2], HW.out⟩
end Go.Proofs.YtpbljcjghjbjdaaDoor
