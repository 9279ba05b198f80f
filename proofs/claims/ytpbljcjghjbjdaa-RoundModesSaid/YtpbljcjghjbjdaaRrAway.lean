/- The reference's away of layer 3. -/
import Derived.Test.YtpbljcjghjbjdaaRrAdd
import Derived.Test.YtpbljcjghjbjdaaRoM
namespace Go.Proofs.Ytpbljcjghjbjdaa
open Go.RowKit
attribute [local go_sem ↓] Go.wp_at_zero Go.wp_at_succ

theorem zero_text (R : Nat) : ((dStr (digs R)).toList == [48]) = decide (R = 0) := by
  have e : (⟨#[48]⟩ : ByteArray).toList = [48] := by rw [Lib.toList_data]
  by_cases h : R = 0
  · rw [h, ← txt0, e]; rfl
  · have := nat_str (a := R) (b := 0) h
    rw [← txt0, e] at this
    rw [this, decide_eq_false h]
theorem last_digit (Q p : Nat) (hp : p + 1 = (digs Q).length) : (digs Q).getD p 0 = Q % 10 := by
  have h1 : digs Q = (digs Q).take p ++ [(digs Q).getD p 0] := by
    rw [← take_at (digs Q) p (by omega), List.take_of_length_le (by omega)]
  have h2 := dVal_digs Q
  have h3 := getD_digs (digs_digs Q) p
  rw [h1, dVal_snoc] at h2
  omega

set_option maxHeartbeats 4000000 in
theorem away_zero (mode : Int) (neg : Bool) (QQ UU : ByteArray) (w : World) :
    Calls Try.prog 38 #[.int .i64 mode, .bool neg, .string QQ, .string (dStr (digs 0)), .string UU] w fun r w' => r = .returned (.tuple #[.bool false, .int .i64 0]) ∧ Below w.heap.size w w' := by
  have qr := zero_text 0
  rw [show decide ((0 : Nat) = 0) = true from rfl] at qr
  generalize dStr (digs 0) = T at *
  go_enter Try.func38, Try.ntmps38
  go_wp2
  exact bodyPost_ret (v := .tuple #[.bool false, .int .i64 0]) (by simp [results, Try.results38, go_sem]) rfl ⟨rfl, Below.refl _ _⟩

set_option maxHeartbeats 4000000 in
set_option maxRecDepth 100000 in
theorem away_1 (neg odd : Bool) (Q R : Nat) (UU AA : ByteArray) (h : Int) (w : World) (h0 : R ≠ 0) (hq : (digs Q).length ≤ 100000) (ho : odd = decide (Q % 2 = 1))
    (HA : ∀ wx : World, Calls Try.prog 39 #[.string (dStr (digs R)), .string (dStr (digs R))] wx fun r w' => r = .returned (.string AA) ∧ Below wx.heap.size wx w')
    (HC : ∀ wx : World, Calls Try.prog 64 #[.string AA, .string UU] wx fun r w' => r = .returned (.int .i64 h) ∧ wx = w') :
    Calls Try.prog 38 #[.int .i64 1, .bool neg, .string (dStr (digs Q)), .string (dStr (digs R)), .string UU] w fun r w' => r = .returned (.tuple #[.bool (true), .int .i64 0]) ∧ Below w.heap.size w w' := by
  have DA := Lib.hid HA
  have DC := Lib.hid HC
  clear HA HC
  obtain ⟨p, hp⟩ : ∃ p, p + 1 = (digs Q).length := ⟨(digs Q).length - 1, by have := digs_len Q; omega⟩
  obtain ⟨S, hS⟩ : ∃ S, S = dStr (digs Q) := ⟨_, rfl⟩
  have hz : S.size = p + 1 := by rw [hS, dStr_size, ← hp]
  have hps : p < S.size := by omega
  have hget : (S[p]'hps).toNat = 48 + Q % 10 := by subst hS; rw [dStr_get _ (digs_digs Q) p hps, last_digit Q p hp]
  obtain ⟨v, hv⟩ : ∃ v, v = Q % 10 := ⟨_, rfl⟩
  have hpl : p ≤ 1000000 := by omega
  rw [← hv] at hget
  have w1 : IntKind.u8.wrap (((S[p]'hps).toNat : Int) - 48) = (v : Int) := by rw [hget, IntWalk.u8_in _ (by omega)]; omega
  have w2 : IntKind.u8.wrap ((v : Int).tmod 2) = ((v % 2 : Nat) : Int) := by rw [Int.tmod_eq_emod_of_nonneg (by omega), IntWalk.u8_in _ (by omega)]; omega
  have w3 : (((v % 2 : Nat) : Int) == 1) = odd := by
    rw [ho]
    by_cases h : Q % 2 = 1
    · rw [decide_eq_true h, beq_iff_eq]; omega
    · rw [decide_eq_false h, beq_eq_false_iff_ne]; omega
  have w3' : ((v : Int) % 2 == 1) = odd := by rw [← w3]; rfl
  have w4 : IntKind.i64.wrap (((p + 1 : Nat) : Int) - 1) = (p : Int) := by rw [IntWalk.i64_in _ (by omega)]; omega
  have w4' : IntKind.i64.wrap ((p : Int) + 1 - 1) = (p : Int) := by rw [IntWalk.i64_in _ (by omega)]; omega
  have n1 : ¬ S.toList = [] := fun h => by have := toList_nil.1 h; omega
  obtain ⟨T, hT⟩ : ∃ T, T = dStr (digs R) := ⟨_, rfl⟩
  have qr : (T.toList == [48]) = false := by rw [hT, zero_text, decide_eq_false h0]
  rw [← hT] at DA
  rw [← hS, ← hT]
  clear hS hT hget hp hv ho h0 hq
  have HW3 := Lib.hid w3
  have HW3' := Lib.hid w3'
  go_enter Try.func38, Try.ntmps38
  go_wp2_with fail
  (with_reducible refine (DA.out _).mono ?_)
  rintro e w4x ⟨rfl, hb⟩
  have HB := Lib.hid hb
  clear hb
  go_wp2_with fail
  (with_reducible refine (DC.out _).mono ?_)
  rintro e w5x ⟨rfl, rfl⟩
  go_wp2
  exact bodyPost_ret (v := .tuple #[.bool (true), .int .i64 0]) (by simp [results, Try.results38, go_sem]) rfl ⟨rfl, HB.out⟩

set_option maxHeartbeats 4000000 in
set_option maxRecDepth 100000 in
theorem away_2 (neg odd : Bool) (Q R : Nat) (UU AA : ByteArray) (h : Int) (w : World) (h0 : R ≠ 0) (hq : (digs Q).length ≤ 100000) (ho : odd = decide (Q % 2 = 1))
    (HA : ∀ wx : World, Calls Try.prog 39 #[.string (dStr (digs R)), .string (dStr (digs R))] wx fun r w' => r = .returned (.string AA) ∧ Below wx.heap.size wx w')
    (HC : ∀ wx : World, Calls Try.prog 64 #[.string AA, .string UU] wx fun r w' => r = .returned (.int .i64 h) ∧ wx = w') :
    Calls Try.prog 38 #[.int .i64 2, .bool neg, .string (dStr (digs Q)), .string (dStr (digs R)), .string UU] w fun r w' => r = .returned (.tuple #[.bool (false), .int .i64 0]) ∧ Below w.heap.size w w' := by
  have DA := Lib.hid HA
  have DC := Lib.hid HC
  clear HA HC
  obtain ⟨p, hp⟩ : ∃ p, p + 1 = (digs Q).length := ⟨(digs Q).length - 1, by have := digs_len Q; omega⟩
  obtain ⟨S, hS⟩ : ∃ S, S = dStr (digs Q) := ⟨_, rfl⟩
  have hz : S.size = p + 1 := by rw [hS, dStr_size, ← hp]
  have hps : p < S.size := by omega
  have hget : (S[p]'hps).toNat = 48 + Q % 10 := by subst hS; rw [dStr_get _ (digs_digs Q) p hps, last_digit Q p hp]
  obtain ⟨v, hv⟩ : ∃ v, v = Q % 10 := ⟨_, rfl⟩
  have hpl : p ≤ 1000000 := by omega
  rw [← hv] at hget
  have w1 : IntKind.u8.wrap (((S[p]'hps).toNat : Int) - 48) = (v : Int) := by rw [hget, IntWalk.u8_in _ (by omega)]; omega
  have w2 : IntKind.u8.wrap ((v : Int).tmod 2) = ((v % 2 : Nat) : Int) := by rw [Int.tmod_eq_emod_of_nonneg (by omega), IntWalk.u8_in _ (by omega)]; omega
  have w3 : (((v % 2 : Nat) : Int) == 1) = odd := by
    rw [ho]
    by_cases h : Q % 2 = 1
    · rw [decide_eq_true h, beq_iff_eq]; omega
    · rw [decide_eq_false h, beq_eq_false_iff_ne]; omega
  have w3' : ((v : Int) % 2 == 1) = odd := by rw [← w3]; rfl
  have w4 : IntKind.i64.wrap (((p + 1 : Nat) : Int) - 1) = (p : Int) := by rw [IntWalk.i64_in _ (by omega)]; omega
  have w4' : IntKind.i64.wrap ((p : Int) + 1 - 1) = (p : Int) := by rw [IntWalk.i64_in _ (by omega)]; omega
  have n1 : ¬ S.toList = [] := fun h => by have := toList_nil.1 h; omega
  obtain ⟨T, hT⟩ : ∃ T, T = dStr (digs R) := ⟨_, rfl⟩
  have qr : (T.toList == [48]) = false := by rw [hT, zero_text, decide_eq_false h0]
  rw [← hT] at DA
  rw [← hS, ← hT]
  clear hS hT hget hp hv ho h0 hq
  have HW3 := Lib.hid w3
  have HW3' := Lib.hid w3'
  go_enter Try.func38, Try.ntmps38
  go_wp2_with fail
  (with_reducible refine (DA.out _).mono ?_)
  rintro e w4x ⟨rfl, hb⟩
  have HB := Lib.hid hb
  clear hb
  go_wp2_with fail
  (with_reducible refine (DC.out _).mono ?_)
  rintro e w5x ⟨rfl, rfl⟩
  go_wp2
  exact bodyPost_ret (v := .tuple #[.bool (false), .int .i64 0]) (by simp [results, Try.results38, go_sem]) rfl ⟨rfl, HB.out⟩

set_option maxHeartbeats 4000000 in
set_option maxRecDepth 100000 in
theorem away_3 (neg odd : Bool) (Q R : Nat) (UU AA : ByteArray) (h : Int) (w : World) (h0 : R ≠ 0) (hq : (digs Q).length ≤ 100000) (ho : odd = decide (Q % 2 = 1))
    (HA : ∀ wx : World, Calls Try.prog 39 #[.string (dStr (digs R)), .string (dStr (digs R))] wx fun r w' => r = .returned (.string AA) ∧ Below wx.heap.size wx w')
    (HC : ∀ wx : World, Calls Try.prog 64 #[.string AA, .string UU] wx fun r w' => r = .returned (.int .i64 h) ∧ wx = w') :
    Calls Try.prog 38 #[.int .i64 3, .bool neg, .string (dStr (digs Q)), .string (dStr (digs R)), .string UU] w fun r w' => r = .returned (.tuple #[.bool (!neg), .int .i64 0]) ∧ Below w.heap.size w w' := by
  have DA := Lib.hid HA
  have DC := Lib.hid HC
  clear HA HC
  obtain ⟨p, hp⟩ : ∃ p, p + 1 = (digs Q).length := ⟨(digs Q).length - 1, by have := digs_len Q; omega⟩
  obtain ⟨S, hS⟩ : ∃ S, S = dStr (digs Q) := ⟨_, rfl⟩
  have hz : S.size = p + 1 := by rw [hS, dStr_size, ← hp]
  have hps : p < S.size := by omega
  have hget : (S[p]'hps).toNat = 48 + Q % 10 := by subst hS; rw [dStr_get _ (digs_digs Q) p hps, last_digit Q p hp]
  obtain ⟨v, hv⟩ : ∃ v, v = Q % 10 := ⟨_, rfl⟩
  have hpl : p ≤ 1000000 := by omega
  rw [← hv] at hget
  have w1 : IntKind.u8.wrap (((S[p]'hps).toNat : Int) - 48) = (v : Int) := by rw [hget, IntWalk.u8_in _ (by omega)]; omega
  have w2 : IntKind.u8.wrap ((v : Int).tmod 2) = ((v % 2 : Nat) : Int) := by rw [Int.tmod_eq_emod_of_nonneg (by omega), IntWalk.u8_in _ (by omega)]; omega
  have w3 : (((v % 2 : Nat) : Int) == 1) = odd := by
    rw [ho]
    by_cases h : Q % 2 = 1
    · rw [decide_eq_true h, beq_iff_eq]; omega
    · rw [decide_eq_false h, beq_eq_false_iff_ne]; omega
  have w3' : ((v : Int) % 2 == 1) = odd := by rw [← w3]; rfl
  have w4 : IntKind.i64.wrap (((p + 1 : Nat) : Int) - 1) = (p : Int) := by rw [IntWalk.i64_in _ (by omega)]; omega
  have w4' : IntKind.i64.wrap ((p : Int) + 1 - 1) = (p : Int) := by rw [IntWalk.i64_in _ (by omega)]; omega
  have n1 : ¬ S.toList = [] := fun h => by have := toList_nil.1 h; omega
  obtain ⟨T, hT⟩ : ∃ T, T = dStr (digs R) := ⟨_, rfl⟩
  have qr : (T.toList == [48]) = false := by rw [hT, zero_text, decide_eq_false h0]
  rw [← hT] at DA
  rw [← hS, ← hT]
  clear hS hT hget hp hv ho h0 hq
  have HW3 := Lib.hid w3
  have HW3' := Lib.hid w3'
  go_enter Try.func38, Try.ntmps38
  go_wp2_with fail
  (with_reducible refine (DA.out _).mono ?_)
  rintro e w4x ⟨rfl, hb⟩
  have HB := Lib.hid hb
  clear hb
  go_wp2_with fail
  (with_reducible refine (DC.out _).mono ?_)
  rintro e w5x ⟨rfl, rfl⟩
  go_wp2
  exact bodyPost_ret (v := .tuple #[.bool (!neg), .int .i64 0]) (by simp [results, Try.results38, go_sem]) rfl ⟨rfl, HB.out⟩

set_option maxHeartbeats 4000000 in
set_option maxRecDepth 100000 in
theorem away_4 (neg odd : Bool) (Q R : Nat) (UU AA : ByteArray) (h : Int) (w : World) (h0 : R ≠ 0) (hq : (digs Q).length ≤ 100000) (ho : odd = decide (Q % 2 = 1))
    (HA : ∀ wx : World, Calls Try.prog 39 #[.string (dStr (digs R)), .string (dStr (digs R))] wx fun r w' => r = .returned (.string AA) ∧ Below wx.heap.size wx w')
    (HC : ∀ wx : World, Calls Try.prog 64 #[.string AA, .string UU] wx fun r w' => r = .returned (.int .i64 h) ∧ wx = w') :
    Calls Try.prog 38 #[.int .i64 4, .bool neg, .string (dStr (digs Q)), .string (dStr (digs R)), .string UU] w fun r w' => r = .returned (.tuple #[.bool (neg), .int .i64 0]) ∧ Below w.heap.size w w' := by
  have DA := Lib.hid HA
  have DC := Lib.hid HC
  clear HA HC
  obtain ⟨p, hp⟩ : ∃ p, p + 1 = (digs Q).length := ⟨(digs Q).length - 1, by have := digs_len Q; omega⟩
  obtain ⟨S, hS⟩ : ∃ S, S = dStr (digs Q) := ⟨_, rfl⟩
  have hz : S.size = p + 1 := by rw [hS, dStr_size, ← hp]
  have hps : p < S.size := by omega
  have hget : (S[p]'hps).toNat = 48 + Q % 10 := by subst hS; rw [dStr_get _ (digs_digs Q) p hps, last_digit Q p hp]
  obtain ⟨v, hv⟩ : ∃ v, v = Q % 10 := ⟨_, rfl⟩
  have hpl : p ≤ 1000000 := by omega
  rw [← hv] at hget
  have w1 : IntKind.u8.wrap (((S[p]'hps).toNat : Int) - 48) = (v : Int) := by rw [hget, IntWalk.u8_in _ (by omega)]; omega
  have w2 : IntKind.u8.wrap ((v : Int).tmod 2) = ((v % 2 : Nat) : Int) := by rw [Int.tmod_eq_emod_of_nonneg (by omega), IntWalk.u8_in _ (by omega)]; omega
  have w3 : (((v % 2 : Nat) : Int) == 1) = odd := by
    rw [ho]
    by_cases h : Q % 2 = 1
    · rw [decide_eq_true h, beq_iff_eq]; omega
    · rw [decide_eq_false h, beq_eq_false_iff_ne]; omega
  have w3' : ((v : Int) % 2 == 1) = odd := by rw [← w3]; rfl
  have w4 : IntKind.i64.wrap (((p + 1 : Nat) : Int) - 1) = (p : Int) := by rw [IntWalk.i64_in _ (by omega)]; omega
  have w4' : IntKind.i64.wrap ((p : Int) + 1 - 1) = (p : Int) := by rw [IntWalk.i64_in _ (by omega)]; omega
  have n1 : ¬ S.toList = [] := fun h => by have := toList_nil.1 h; omega
  obtain ⟨T, hT⟩ : ∃ T, T = dStr (digs R) := ⟨_, rfl⟩
  have qr : (T.toList == [48]) = false := by rw [hT, zero_text, decide_eq_false h0]
  rw [← hT] at DA
  rw [← hS, ← hT]
  clear hS hT hget hp hv ho h0 hq
  have HW3 := Lib.hid w3
  have HW3' := Lib.hid w3'
  go_enter Try.func38, Try.ntmps38
  go_wp2_with fail
  (with_reducible refine (DA.out _).mono ?_)
  rintro e w4x ⟨rfl, hb⟩
  have HB := Lib.hid hb
  clear hb
  go_wp2_with fail
  (with_reducible refine (DC.out _).mono ?_)
  rintro e w5x ⟨rfl, rfl⟩
  go_wp2
  exact bodyPost_ret (v := .tuple #[.bool (neg), .int .i64 0]) (by simp [results, Try.results38, go_sem]) rfl ⟨rfl, HB.out⟩

set_option maxHeartbeats 4000000 in
set_option maxRecDepth 100000 in
theorem away_5 (neg odd : Bool) (Q R : Nat) (UU AA : ByteArray) (h : Int) (w : World) (h0 : R ≠ 0) (hq : (digs Q).length ≤ 100000) (ho : odd = decide (Q % 2 = 1))
    (HA : ∀ wx : World, Calls Try.prog 39 #[.string (dStr (digs R)), .string (dStr (digs R))] wx fun r w' => r = .returned (.string AA) ∧ Below wx.heap.size wx w')
    (HC : ∀ wx : World, Calls Try.prog 64 #[.string AA, .string UU] wx fun r w' => r = .returned (.int .i64 h) ∧ wx = w') :
    Calls Try.prog 38 #[.int .i64 5, .bool neg, .string (dStr (digs Q)), .string (dStr (digs R)), .string UU] w fun r w' => r = .returned (.tuple #[.bool (decide (0 ≤ h)), .int .i64 0]) ∧ Below w.heap.size w w' := by
  have DA := Lib.hid HA
  have DC := Lib.hid HC
  clear HA HC
  obtain ⟨p, hp⟩ : ∃ p, p + 1 = (digs Q).length := ⟨(digs Q).length - 1, by have := digs_len Q; omega⟩
  obtain ⟨S, hS⟩ : ∃ S, S = dStr (digs Q) := ⟨_, rfl⟩
  have hz : S.size = p + 1 := by rw [hS, dStr_size, ← hp]
  have hps : p < S.size := by omega
  have hget : (S[p]'hps).toNat = 48 + Q % 10 := by subst hS; rw [dStr_get _ (digs_digs Q) p hps, last_digit Q p hp]
  obtain ⟨v, hv⟩ : ∃ v, v = Q % 10 := ⟨_, rfl⟩
  have hpl : p ≤ 1000000 := by omega
  rw [← hv] at hget
  have w1 : IntKind.u8.wrap (((S[p]'hps).toNat : Int) - 48) = (v : Int) := by rw [hget, IntWalk.u8_in _ (by omega)]; omega
  have w2 : IntKind.u8.wrap ((v : Int).tmod 2) = ((v % 2 : Nat) : Int) := by rw [Int.tmod_eq_emod_of_nonneg (by omega), IntWalk.u8_in _ (by omega)]; omega
  have w3 : (((v % 2 : Nat) : Int) == 1) = odd := by
    rw [ho]
    by_cases h : Q % 2 = 1
    · rw [decide_eq_true h, beq_iff_eq]; omega
    · rw [decide_eq_false h, beq_eq_false_iff_ne]; omega
  have w3' : ((v : Int) % 2 == 1) = odd := by rw [← w3]; rfl
  have w4 : IntKind.i64.wrap (((p + 1 : Nat) : Int) - 1) = (p : Int) := by rw [IntWalk.i64_in _ (by omega)]; omega
  have w4' : IntKind.i64.wrap ((p : Int) + 1 - 1) = (p : Int) := by rw [IntWalk.i64_in _ (by omega)]; omega
  have n1 : ¬ S.toList = [] := fun h => by have := toList_nil.1 h; omega
  obtain ⟨T, hT⟩ : ∃ T, T = dStr (digs R) := ⟨_, rfl⟩
  have qr : (T.toList == [48]) = false := by rw [hT, zero_text, decide_eq_false h0]
  rw [← hT] at DA
  rw [← hS, ← hT]
  clear hS hT hget hp hv ho h0 hq
  have HW3 := Lib.hid w3
  have HW3' := Lib.hid w3'
  go_enter Try.func38, Try.ntmps38
  go_wp2_with fail
  (with_reducible refine (DA.out _).mono ?_)
  rintro e w4x ⟨rfl, hb⟩
  have HB := Lib.hid hb
  clear hb
  go_wp2_with fail
  (with_reducible refine (DC.out _).mono ?_)
  rintro e w5x ⟨rfl, rfl⟩
  go_wp2
  exact bodyPost_ret (v := .tuple #[.bool (decide (0 ≤ h)), .int .i64 0]) (by simp [results, Try.results38, go_sem]) rfl ⟨rfl, HB.out⟩

set_option maxHeartbeats 4000000 in
set_option maxRecDepth 100000 in
theorem away_6 (neg odd : Bool) (Q R : Nat) (UU AA : ByteArray) (h : Int) (w : World) (h0 : R ≠ 0) (hq : (digs Q).length ≤ 100000) (ho : odd = decide (Q % 2 = 1))
    (HA : ∀ wx : World, Calls Try.prog 39 #[.string (dStr (digs R)), .string (dStr (digs R))] wx fun r w' => r = .returned (.string AA) ∧ Below wx.heap.size wx w')
    (HC : ∀ wx : World, Calls Try.prog 64 #[.string AA, .string UU] wx fun r w' => r = .returned (.int .i64 h) ∧ wx = w') :
    Calls Try.prog 38 #[.int .i64 6, .bool neg, .string (dStr (digs Q)), .string (dStr (digs R)), .string UU] w fun r w' => r = .returned (.tuple #[.bool (decide (0 < h)), .int .i64 0]) ∧ Below w.heap.size w w' := by
  have DA := Lib.hid HA
  have DC := Lib.hid HC
  clear HA HC
  obtain ⟨p, hp⟩ : ∃ p, p + 1 = (digs Q).length := ⟨(digs Q).length - 1, by have := digs_len Q; omega⟩
  obtain ⟨S, hS⟩ : ∃ S, S = dStr (digs Q) := ⟨_, rfl⟩
  have hz : S.size = p + 1 := by rw [hS, dStr_size, ← hp]
  have hps : p < S.size := by omega
  have hget : (S[p]'hps).toNat = 48 + Q % 10 := by subst hS; rw [dStr_get _ (digs_digs Q) p hps, last_digit Q p hp]
  obtain ⟨v, hv⟩ : ∃ v, v = Q % 10 := ⟨_, rfl⟩
  have hpl : p ≤ 1000000 := by omega
  rw [← hv] at hget
  have w1 : IntKind.u8.wrap (((S[p]'hps).toNat : Int) - 48) = (v : Int) := by rw [hget, IntWalk.u8_in _ (by omega)]; omega
  have w2 : IntKind.u8.wrap ((v : Int).tmod 2) = ((v % 2 : Nat) : Int) := by rw [Int.tmod_eq_emod_of_nonneg (by omega), IntWalk.u8_in _ (by omega)]; omega
  have w3 : (((v % 2 : Nat) : Int) == 1) = odd := by
    rw [ho]
    by_cases h : Q % 2 = 1
    · rw [decide_eq_true h, beq_iff_eq]; omega
    · rw [decide_eq_false h, beq_eq_false_iff_ne]; omega
  have w3' : ((v : Int) % 2 == 1) = odd := by rw [← w3]; rfl
  have w4 : IntKind.i64.wrap (((p + 1 : Nat) : Int) - 1) = (p : Int) := by rw [IntWalk.i64_in _ (by omega)]; omega
  have w4' : IntKind.i64.wrap ((p : Int) + 1 - 1) = (p : Int) := by rw [IntWalk.i64_in _ (by omega)]; omega
  have n1 : ¬ S.toList = [] := fun h => by have := toList_nil.1 h; omega
  obtain ⟨T, hT⟩ : ∃ T, T = dStr (digs R) := ⟨_, rfl⟩
  have qr : (T.toList == [48]) = false := by rw [hT, zero_text, decide_eq_false h0]
  rw [← hT] at DA
  rw [← hS, ← hT]
  clear hS hT hget hp hv ho h0 hq
  have HW3 := Lib.hid w3
  have HW3' := Lib.hid w3'
  go_enter Try.func38, Try.ntmps38
  go_wp2_with fail
  (with_reducible refine (DA.out _).mono ?_)
  rintro e w4x ⟨rfl, hb⟩
  have HB := Lib.hid hb
  clear hb
  go_wp2_with fail
  (with_reducible refine (DC.out _).mono ?_)
  rintro e w5x ⟨rfl, rfl⟩
  go_wp2
  exact bodyPost_ret (v := .tuple #[.bool (decide (0 < h)), .int .i64 0]) (by simp [results, Try.results38, go_sem]) rfl ⟨rfl, HB.out⟩

set_option maxHeartbeats 4000000 in
set_option maxRecDepth 100000 in
theorem away_7 (neg odd : Bool) (Q R : Nat) (UU AA : ByteArray) (h : Int) (w : World) (h0 : R ≠ 0) (hq : (digs Q).length ≤ 100000) (ho : odd = decide (Q % 2 = 1))
    (HA : ∀ wx : World, Calls Try.prog 39 #[.string (dStr (digs R)), .string (dStr (digs R))] wx fun r w' => r = .returned (.string AA) ∧ Below wx.heap.size wx w')
    (HC : ∀ wx : World, Calls Try.prog 64 #[.string AA, .string UU] wx fun r w' => r = .returned (.int .i64 h) ∧ wx = w') :
    Calls Try.prog 38 #[.int .i64 7, .bool neg, .string (dStr (digs Q)), .string (dStr (digs R)), .string UU] w fun r w' => r = .returned (.tuple #[.bool ((decide (0 < h) || (decide (h = 0) && odd))), .int .i64 0]) ∧ Below w.heap.size w w' := by
  have DA := Lib.hid HA
  have DC := Lib.hid HC
  clear HA HC
  obtain ⟨p, hp⟩ : ∃ p, p + 1 = (digs Q).length := ⟨(digs Q).length - 1, by have := digs_len Q; omega⟩
  obtain ⟨S, hS⟩ : ∃ S, S = dStr (digs Q) := ⟨_, rfl⟩
  have hz : S.size = p + 1 := by rw [hS, dStr_size, ← hp]
  have hps : p < S.size := by omega
  have hget : (S[p]'hps).toNat = 48 + Q % 10 := by subst hS; rw [dStr_get _ (digs_digs Q) p hps, last_digit Q p hp]
  obtain ⟨v, hv⟩ : ∃ v, v = Q % 10 := ⟨_, rfl⟩
  have hpl : p ≤ 1000000 := by omega
  rw [← hv] at hget
  have w1 : IntKind.u8.wrap (((S[p]'hps).toNat : Int) - 48) = (v : Int) := by rw [hget, IntWalk.u8_in _ (by omega)]; omega
  have w2 : IntKind.u8.wrap ((v : Int).tmod 2) = ((v % 2 : Nat) : Int) := by rw [Int.tmod_eq_emod_of_nonneg (by omega), IntWalk.u8_in _ (by omega)]; omega
  have w3 : (((v % 2 : Nat) : Int) == 1) = odd := by
    rw [ho]
    by_cases h : Q % 2 = 1
    · rw [decide_eq_true h, beq_iff_eq]; omega
    · rw [decide_eq_false h, beq_eq_false_iff_ne]; omega
  have w3' : ((v : Int) % 2 == 1) = odd := by rw [← w3]; rfl
  have w4 : IntKind.i64.wrap (((p + 1 : Nat) : Int) - 1) = (p : Int) := by rw [IntWalk.i64_in _ (by omega)]; omega
  have w4' : IntKind.i64.wrap ((p : Int) + 1 - 1) = (p : Int) := by rw [IntWalk.i64_in _ (by omega)]; omega
  have n1 : ¬ S.toList = [] := fun h => by have := toList_nil.1 h; omega
  obtain ⟨T, hT⟩ : ∃ T, T = dStr (digs R) := ⟨_, rfl⟩
  have qr : (T.toList == [48]) = false := by rw [hT, zero_text, decide_eq_false h0]
  rw [← hT] at DA
  rw [← hS, ← hT]
  clear hS hT hget hp hv ho h0 hq
  have HW3 := Lib.hid w3
  have HW3' := Lib.hid w3'
  by_cases g1 : 0 < h
  · have q1 : decide (0 < h) = true := decide_eq_true g1
    have HR : Hid ((decide (0 < h) || (decide (h = 0) && odd)) = true) := by show _ = _; rw [q1]; rfl
    rw [HR.out]
    clear HR
    go_enter Try.func38, Try.ntmps38
    go_wp2_with fail
    (with_reducible refine (DA.out _).mono ?_)
    rintro e w4x ⟨rfl, hb⟩
    have HB := Lib.hid hb
    clear hb
    go_wp2_with fail
    (with_reducible refine (DC.out _).mono ?_)
    rintro e w5x ⟨rfl, rfl⟩
    go_wp2
    exact bodyPost_ret (v := .tuple #[.bool (true), .int .i64 0]) (by simp [results, Try.results38, go_sem]) rfl ⟨rfl, HB.out⟩
  · have q1 : decide (0 < h) = false := decide_eq_false g1
    by_cases g2 : h = 0
    · have q2 : (h == 0) = true := beq_iff_eq.2 g2
      have HR : Hid ((decide (0 < h) || (decide (h = 0) && odd)) = odd) := by show _ = _; rw [q1, decide_eq_true g2]; simp
      rw [HR.out]
      clear HR g2 w3 w3'
      go_enter Try.func38, Try.ntmps38
      go_wp2_with fail
      (with_reducible refine (DA.out _).mono ?_)
      rintro e w4x ⟨rfl, hb⟩
      have HB := Lib.hid hb
      clear hb
      go_wp2_with fail
      (with_reducible refine (DC.out _).mono ?_)
      rintro e w5x ⟨rfl, rfl⟩
      go_wp2
      refine bodyPost_ret (v := .tuple #[.bool ((v : Int) % 2 == 1), .int .i64 0]) (by simp [results, Try.results38, go_sem]) rfl ⟨by rw [HW3'.out], HB.out⟩
    · have q2 : (h == 0) = false := beq_eq_false_iff_ne.2 g2
      have HR : Hid ((decide (0 < h) || (decide (h = 0) && odd)) = false) := by show _ = _; rw [q1, decide_eq_false g2]; rfl
      rw [HR.out]
      clear HR g2
      go_enter Try.func38, Try.ntmps38
      go_wp2_with fail
      (with_reducible refine (DA.out _).mono ?_)
      rintro e w4x ⟨rfl, hb⟩
      have HB := Lib.hid hb
      clear hb
      go_wp2_with fail
      (with_reducible refine (DC.out _).mono ?_)
      rintro e w5x ⟨rfl, rfl⟩
      go_wp2
      exact bodyPost_ret (v := .tuple #[.bool (false), .int .i64 0]) (by simp [results, Try.results38, go_sem]) rfl ⟨rfl, HB.out⟩

set_option maxHeartbeats 4000000 in
set_option maxRecDepth 100000 in
theorem away_8 (neg odd : Bool) (Q R : Nat) (UU AA : ByteArray) (h : Int) (w : World) (h0 : R ≠ 0) (hq : (digs Q).length ≤ 100000) (ho : odd = decide (Q % 2 = 1))
    (HA : ∀ wx : World, Calls Try.prog 39 #[.string (dStr (digs R)), .string (dStr (digs R))] wx fun r w' => r = .returned (.string AA) ∧ Below wx.heap.size wx w')
    (HC : ∀ wx : World, Calls Try.prog 64 #[.string AA, .string UU] wx fun r w' => r = .returned (.int .i64 h) ∧ wx = w') :
    Calls Try.prog 38 #[.int .i64 8, .bool neg, .string (dStr (digs Q)), .string (dStr (digs R)), .string UU] w fun r w' => r = .returned (.tuple #[.bool (false), .int .i64 31]) ∧ Below w.heap.size w w' := by
  have DA := Lib.hid HA
  have DC := Lib.hid HC
  clear HA HC
  obtain ⟨p, hp⟩ : ∃ p, p + 1 = (digs Q).length := ⟨(digs Q).length - 1, by have := digs_len Q; omega⟩
  obtain ⟨S, hS⟩ : ∃ S, S = dStr (digs Q) := ⟨_, rfl⟩
  have hz : S.size = p + 1 := by rw [hS, dStr_size, ← hp]
  have hps : p < S.size := by omega
  have hget : (S[p]'hps).toNat = 48 + Q % 10 := by subst hS; rw [dStr_get _ (digs_digs Q) p hps, last_digit Q p hp]
  obtain ⟨v, hv⟩ : ∃ v, v = Q % 10 := ⟨_, rfl⟩
  have hpl : p ≤ 1000000 := by omega
  rw [← hv] at hget
  have w1 : IntKind.u8.wrap (((S[p]'hps).toNat : Int) - 48) = (v : Int) := by rw [hget, IntWalk.u8_in _ (by omega)]; omega
  have w2 : IntKind.u8.wrap ((v : Int).tmod 2) = ((v % 2 : Nat) : Int) := by rw [Int.tmod_eq_emod_of_nonneg (by omega), IntWalk.u8_in _ (by omega)]; omega
  have w3 : (((v % 2 : Nat) : Int) == 1) = odd := by
    rw [ho]
    by_cases h : Q % 2 = 1
    · rw [decide_eq_true h, beq_iff_eq]; omega
    · rw [decide_eq_false h, beq_eq_false_iff_ne]; omega
  have w3' : ((v : Int) % 2 == 1) = odd := by rw [← w3]; rfl
  have w4 : IntKind.i64.wrap (((p + 1 : Nat) : Int) - 1) = (p : Int) := by rw [IntWalk.i64_in _ (by omega)]; omega
  have w4' : IntKind.i64.wrap ((p : Int) + 1 - 1) = (p : Int) := by rw [IntWalk.i64_in _ (by omega)]; omega
  have n1 : ¬ S.toList = [] := fun h => by have := toList_nil.1 h; omega
  obtain ⟨T, hT⟩ : ∃ T, T = dStr (digs R) := ⟨_, rfl⟩
  have qr : (T.toList == [48]) = false := by rw [hT, zero_text, decide_eq_false h0]
  rw [← hT] at DA
  rw [← hS, ← hT]
  clear hS hT hget hp hv ho h0 hq
  have HW3 := Lib.hid w3
  have HW3' := Lib.hid w3'
  go_enter Try.func38, Try.ntmps38
  go_wp2_with fail
  (with_reducible refine (DA.out _).mono ?_)
  rintro e w4x ⟨rfl, hb⟩
  have HB := Lib.hid hb
  clear hb
  go_wp2_with fail
  (with_reducible refine (DC.out _).mono ?_)
  rintro e w5x ⟨rfl, rfl⟩
  go_wp2
  exact bodyPost_ret (v := .tuple #[.bool (false), .int .i64 31]) (by simp [results, Try.results38, go_sem]) rfl ⟨rfl, HB.out⟩
end Go.Proofs.Ytpbljcjghjbjdaa
