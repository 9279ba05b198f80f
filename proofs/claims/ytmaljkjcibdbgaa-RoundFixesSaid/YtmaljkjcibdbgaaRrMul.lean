/- The reference's mul and bound of layer 3. -/
import Derived.Test.YtmaljkjcibdbgaaRrAdd
import Derived.Test.YtmaljkjcibdbgaaRrMade
namespace Go.Proofs.Ytmaljkjcibdbgaa
open Go.RowKit
attribute [local go_sem ↓] Go.wp_at_zero Go.wp_at_succ

set_option maxHeartbeats 4000000 in
set_option maxRecDepth 100000 in
theorem rmul_any (x y : Nat) (w : World) (hx : (digs x).length ≤ 1000) (hy : (digs y).length ≤ 1000) :
    Calls Try.prog 84 #[.string (dStr (digs x)), .string (dStr (digs y))] w fun e w' => e = .returned (.string (dStr (digs (x * y)))) ∧ Below w.heap.size w w' := by
  obtain ⟨n, hn⟩ : ∃ n, n = (digs y).length := ⟨_, rfl⟩
  have LX := digs_len x
  have room : ∀ m, m < 10 ^ n → (digs (x * m)).length ≤ 2000 := fun m hm => by
    have h1 := (digs_le x (digs x).length LX).1 (Nat.le_refl _)
    have h2 := (digs_le (x * m) ((digs x).length + n) (by omega)).2 (by rw [Nat.pow_add]; exact Nat.mul_lt_mul'' h1 hm)
    omega
  have RO := Lib.hid room
  have DP : Hid (∀ (m : Nat) (wx : World), m < 10 ^ n → Calls Try.prog 98 #[.string (dStr (digs (x * m))), .string (dStr (digs x))] wx fun r w' => r = .returned (.string (dStr (digs (x * (m + 1))))) ∧ Below wx.heap.size wx w') := fun m wx h => by
    have := radd_any (digs (x * m)) (digs x) wx (digs_digs _) (digs_digs _) (digs_len _) (by have := RO.out m h; omega) (by omega)
    rw [dVal_digs, dVal_digs] at this
    rw [← Nat.mul_succ] at this
    exact this
  have DL : Hid (∀ (m : Nat) (wx : World) {X : ByteArray}, m < 10 ^ n → X = dStr (digs (x * m)) ++ ⟨#[48]⟩ → Calls Try.prog 81 #[.string X] wx fun r w' => r = .returned (.string (dStr (digs (x * (m * 10))))) ∧ wx = w') := by
    intro m wx X hm hX
    rw [hX, show (⟨#[48]⟩ : ByteArray) = dStr [0] from rfl, dStr_append]
    have hd : Digs (digs (x * m) ++ [0]) := (digs_digs _).append (Digs.cons (by omega) Digs.nil)
    have := rlead_any (digs (x * m) ++ [0]) wx hd (by have := RO.out m hm; rw [List.length_append]; simp; omega)
    rw [dVal_snoc, dVal_digs, Nat.add_zero, Nat.mul_assoc] at this
    exact this
  have HV := Lib.hid (dVal_digs y)
  have HDY := Lib.hid (digs_digs y)
  have HTK : Hid (∀ k, k < (digs y).length → dVal ((digs y).take (k + 1)) = dVal ((digs y).take k) * 10 + (digs y).getD k 0) := fun k hk => by rw [take_at _ k hk, dVal_snoc]
  have HLT : Hid (∀ k, k ≤ (digs y).length → dVal ((digs y).take k) < 10 ^ k) := fun k hk => by
    have := dVal_lt ((digs_digs y).take k)
    rw [List.length_take, Nat.min_eq_left hk] at this
    exact this
  have RS : Hid (∀ m, m < 10 ^ n → (dStr (digs (x * m))).size ≤ 2000) := fun m h => by rw [dStr_size]; exact RO.out m h
  have hz : (dStr (digs y)).size = n := by rw [dStr_size, hn]
  rw [← hn] at HTK HLT hy
  have HN := Lib.hid hn
  have HG : Hid (∀ k, (hk : k < (dStr (digs y)).size) → ((dStr (digs y))[k]'hk).toNat = 48 + (digs y).getD k 0) := fun k hk => dStr_get _ (digs_digs y) k hk
  obtain ⟨S, hS⟩ : ∃ S, S = dStr (digs y) := ⟨_, rfl⟩
  obtain ⟨T, hT⟩ : ∃ T, T = dStr (digs x) := ⟨_, rfl⟩
  rw [← hS] at hz HG ⊢
  rw [← hT] at DP ⊢
  have Z0 : Hid ((⟨#[48]⟩ : ByteArray) = dStr (digs (x * 0))) := by show _ = _; rw [Nat.mul_zero]; exact txt0
  clear hS hT hn room hx LX
  generalize digs y = lb at *
  go_enter Try.func84, Try.ntmps84
  go_wp2
  go_loopw [5, 6] (fun sv iv wr => ∃ (k m : Nat), iv = .int .i64 (k : Int) ∧ sv = .string (dStr (digs (x * m))) ∧ k ≤ n ∧ m = dVal (lb.take k) ∧ Below w.heap.size w wr) (fun _ iv _ => n - (intOf iv).toNat)
  case atStart => exact ⟨0, 0, rfl, congrArg Value.string Z0.out, by omega, rfl, Below.refl _ _⟩
  case round =>
    obtain ⟨k, m, rfl, rfl, hk, hm, hbw⟩ := hrel
    have HM := Lib.hid hm
    have HW := Lib.hid hbw
    clear hm hbw
    by_cases hlt : k < n
    · have hd := getD_digs HDY.out k
      have HT := Lib.hid (HTK.out k hlt)
      have HK1 := Lib.hid (HLT.out (k + 1) hlt)
      have HP1 : Hid (10 ^ (k + 1) ≤ 10 ^ n) := Nat.pow_le_pow_right (by omega) hlt
      have hks : k < S.size := by omega
      have hget := HG.out k hks
      generalize lb.getD k 0 = d at *
      have HGET := Lib.hid hget
      have HMn : Hid (m * 10 + d < 10 ^ n) := by have h1 := HK1.out; have h2 := HT.out; have h3 := HP1.out; have h4 := HM.out; show _ < _; rw [h2, ← h4] at h1; omega
      have DL2 := Lib.hid (fun wx {X} => DL.out m wx (X := X) (by have := HMn.out; omega))
      have g0 := RS.out m (by have := HMn.out; omega)
      have g1 : ¬ 9223372036854775807 < (dStr (digs (x * m))).size + 1 := by omega
      clear hget
      go_wp2_with fail
      (with_reducible refine (DL2.out _ ?_).mono ?_)
      · rfl
      rintro e w4 ⟨rfl, rfl⟩
      clear g1 g0
      go_wp2
      go_loopw [5, 7] (fun sv cv wx => ∃ c : Nat, sv = .string (dStr (digs (x * (m * 10 + c)))) ∧ cv = .int .u8 (48 + (c : Int)) ∧ c ≤ d ∧ Below w.heap.size w wx) (fun _ cv _ => 48 + d - (intOf cv).toNat)
      case atStart => exact ⟨0, rfl, rfl, by omega, HW.out⟩
      case round =>
        obtain ⟨c, rfl, rfl, hc, hbw2⟩ := hrel
        have HW2 := Lib.hid hbw2
        clear hbw2
        by_cases hlc : c < d
        · have q : decide (48 + (c : Int) < (((S[k]'hks).toNat : Nat) : Int)) = true := decide_eq_true (by have := HGET.out; omega)
          have DP2 := Lib.hid (fun wx => DP.out (m * 10 + c) wx (by have := HMn.out; omega))
          have e1 : IntKind.u8.wrap (48 + (c : Int) + 1) = 48 + (c : Int) + 1 := IntWalk.u8_in _ ⟨by omega, by omega⟩
          go_wp2_with fail
          (with_reducible refine (DP2.out _).mono ?_)
          rintro e w5 ⟨rfl, hb5⟩
          have HW5 := Lib.hid (HW2.out.trans (hb5.mono HW2.out.size))
          clear hb5
          go_wp2
          go_roundw
          case rel => exact ⟨c + 1, rfl, by first | (congr 1; done) | (congr 1; omega), by omega, HW5.out⟩
          case measure => simp [intOf]; omega
        · obtain rfl : c = d := by omega
          have q : decide (48 + (c : Int) < (((S[k]'hks).toNat : Nat) : Int)) = false := decide_eq_false (by have := HGET.out; omega)
          go_wp2
          go_roundw
          case rel => exact ⟨k + 1, m * 10 + c, by go_num, rfl, by omega, by rw [HT.out, ← HM.out], HW2.out⟩
          case measure => simp [intOf]; omega
    · obtain rfl : k = n := by omega
      have HF : Hid (m = y) := by
        have h1 := HM.out
        rw [List.take_of_length_le (Nat.le_of_eq HN.out.symm), HV.out] at h1
        exact h1
      have HE : Hid (dStr (digs (x * m)) = dStr (digs (x * y))) := by show _ = _; rw [HF.out]
      go_wp2
      go_ret
      exact ⟨ret_s HE.out, HW.out⟩

def boundV (n : Bool) (i f : ByteArray) : Value := if 40 < i.size + f.size then .tuple #[.agg #[.bool false, .string ⟨#[]⟩, .string ⟨#[]⟩], .int .i64 3] else .tuple #[.agg #[.bool n, .string i, .string f], .int .i64 0]
set_option maxHeartbeats 2000000 in
set_option maxRecDepth 100000 in
theorem rbound_any (n : Bool) (i f : ByteArray) (w : World) (hz : i.size + f.size ≤ 1000000) : Calls Try.prog 76 #[.agg #[.bool n, .string i, .string f]] w fun e w' => e = .returned (boundV n i f) ∧ Below w.heap.size w w' := by
  have wz : IntKind.i64.wrap ((i.size : Int) + (f.size : Int)) = (i.size : Int) + (f.size : Int) := IntWalk.i64_in _ (by omega)
  unfold boundV
  by_cases h : 40 < i.size + f.size
  · rw [if_pos h]
    have q : decide ((40 : Int) < (i.size : Int) + (f.size : Int)) = true := decide_eq_true (by omega)
    clear h hz
    go_enter Try.func76, Try.ntmps76
    go_wp2
    exact bodyPost_ret (v := .tuple #[.agg #[.bool false, .string ⟨#[]⟩, .string ⟨#[]⟩], .int .i64 3]) (by simp [results, Try.results76, go_sem]) rfl ⟨rfl, below_two w _ _⟩
  · rw [if_neg h]
    have q : decide ((40 : Int) < (i.size : Int) + (f.size : Int)) = false := decide_eq_false (by omega)
    clear h hz
    go_enter Try.func76, Try.ntmps76
    go_wp2
    exact bodyPost_ret (v := .tuple #[.agg #[.bool n, .string i, .string f], .int .i64 0]) (by simp [results, Try.results76, go_sem]) rfl ⟨rfl, below_two w _ _⟩
end Go.Proofs.Ytmaljkjcibdbgaa
