/- The reference's Lead, Noughts and cmp of layer 3. -/
import Derived.Test.YtpbljcjghjbjdaaDRefOver
import Derived.Test.YtpbljcjghjbjdaaRoM
namespace Go.Proofs.Ytpbljcjghjbjdaa
open Go.RowKit

set_option maxHeartbeats 1000000 in
set_option maxRecDepth 100000 in
theorem rlead_any (l : List Nat) (w : World) (hd : Digs l) (hl : l.length ≤ 1000000) :
    Calls Try.prog 40 #[.string (dStr l)] w fun r w' => r = .returned (.string (dStr (digs (dVal l)))) ∧ w = w' := by
  have HL := Lib.hid (dLead_digs l hd)
  have HDL := Lib.hid hd
  clear hd
  go_enter Try.func40, Try.ntmps40
  go_wp2
  go_loop [0] (fun v => ∃ m : List Nat, v = .string (dStr m) ∧ dLead m = dLead l ∧ Digs m ∧ m.length ≤ l.length) (fun v => sizeOfStr v)
  case atStart => exact ⟨l, rfl, rfl, HDL.out, Nat.le_refl _⟩
  case round =>
    obtain ⟨m, rfl, hm, hdm, hlm⟩ := hrel
    have HM := Lib.hid (hm.trans HL.out)
    have HM0 := Lib.hid hm
    have HD := Lib.hid hdm
    have HLM := Lib.hid hlm
    clear hm hdm hlm
    match m, HM, HM0, HD, HLM with
    | [], HM, HM0, HD, HLM =>
      obtain ⟨S, hS⟩ : ∃ S, S = dStr [] := ⟨_, rfl⟩
      have hz : S.size = 0 := by rw [hS]; rfl
      have n1 : S.toList = [] := toList_nil.2 hz
      have n2 : S.toList.isEmpty = true := by rw [n1]; rfl
      have HR := Lib.hid (show dStr [0] = dStr (digs (dVal l)) by rw [← HM.out]; rfl)
      rw [← hS]
      clear hS
      go_wp2
      go_ret
      exact ⟨ret_s HR.out, rfl⟩
    | [d], HM, HM0, HD, HLM =>
      obtain ⟨S, hS⟩ : ∃ S, S = dStr [d] := ⟨_, rfl⟩
      have hz : S.size = 1 := by rw [hS, dStr_size]; rfl
      have n1 : ¬ S.toList = [] := fun h => by have := toList_nil.1 h; omega
      have n2 : S.toList.isEmpty = false := by simpa using n1
      have HR := Lib.hid (show S = dStr (digs (dVal l)) by rw [hS, ← HM.out]; rfl)
      rw [← hS]
      clear hS
      go_wp2
      go_ret
      exact ⟨ret_s HR.out, rfl⟩
    | d :: e :: m, HM, HM0, HD, HLM =>
      obtain ⟨S, hS⟩ : ∃ S, S = dStr (d :: e :: m) := ⟨_, rfl⟩
      have hz : S.size = m.length + 2 := by rw [hS, dStr_size]; rfl
      have hks : 0 < S.size := by omega
      have hget : (S[0]'hks).toNat = 48 + d := by subst hS; exact dStr_get _ HD.out 0 hks
      have hlen : m.length ≤ 1000000 := by have := HLM.out; simp at this; omega
      by_cases h0 : d = 0
      · have q48 : (((S[0]'hks).toNat : Int) == 48) = true := by rw [hget, h0]; rfl
        have HEX := Lib.hid (show S.extract 1 S.size = dStr (e :: m) by rw [hS, dStr_size, dStr_ext, List.take_length]; rfl)
        have HZ := Lib.hid hz
        have H0 := Lib.hid h0
        rw [← hS]
        clear hget h0 hS
        go_wp2
        go_round
        case rel => exact ⟨e :: m, congrArg Value.string (by rw [← HZ.out]; exact HEX.out), by rw [← HM0.out]; exact (if_pos H0.out).symm, HD.out.tail, by have := HLM.out; simp at this ⊢; omega⟩
        case measure => simp [sizeOfStr, HZ.out]
      · have q48 : (((S[0]'hks).toNat : Int) == 48) = false := by rw [hget, beq_eq_false_iff_ne]; omega
        have n1 : ¬ S.toList = [] := fun h => by have := toList_nil.1 h; omega
        have n2 : S.toList.isEmpty = false := by simpa using n1
        have HR := Lib.hid (show S = dStr (digs (dVal l)) by rw [hS, ← HM.out]; exact congrArg dStr (if_neg h0).symm)
        rw [← hS]
        clear hget h0 hS
        go_wp2
        go_ret
        exact ⟨ret_s HR.out, rfl⟩

theorem rcmp_core (A B : ByteArray) (x y : Nat) (w : World) (hx : (digs x).length ≤ 1000000) (hy : (digs y).length ≤ 1000000) (HA : ∀ wx : World, Calls Try.prog 40 #[.string A] wx fun r w' => r = .returned (.string (dStr (digs x))) ∧ wx = w') (HB : ∀ wx : World, Calls Try.prog 40 #[.string B] wx fun r w' => r = .returned (.string (dStr (digs y))) ∧ wx = w') :
    Calls Try.prog 64 #[.string A, .string B] w fun r w' => r = .returned (.int .i64 (cmpN x y)) ∧ w = w' := by
  obtain ⟨S, hS⟩ : ∃ S, S = dStr (digs x) := ⟨_, rfl⟩
  obtain ⟨T, hT⟩ : ∃ T, T = dStr (digs y) := ⟨_, rfl⟩
  have zs : S.size = (digs x).length := by rw [hS, dStr_size]
  have zt : T.size = (digs y).length := by rw [hT, dStr_size]
  have hl1 : S.size < T.size → x < y := fun h => digs_len_lt (by omega)
  have hl2 : T.size < S.size → y < x := fun h => digs_len_lt (by omega)
  have hl3 : S.size = T.size → Op.bytesLess S.toList T.toList = decide (x < y) := fun h => by
    have := less_digits (digs x) (digs y) (digs_digs _) (digs_digs _) (by omega)
    rw [dVal_digs, dVal_digs] at this
    rw [Lib.toList_data, Lib.toList_data, hS, hT, dStr_toList, dStr_toList]
    exact this
  have hq : (S.toList == T.toList) = decide (x = y) := by
    rw [Bool.eq_iff_iff, beq_iff_eq, decide_eq_true_eq, Lib.toList_data, Lib.toList_data, hS, hT]
    constructor
    · intro h
      exact digs_inj (dStr_inj (digs_digs _) (digs_digs _) (by
        cases h1 : dStr (digs x); cases h2 : dStr (digs y)
        rw [h1, h2] at h
        congr 1
        exact Array.toList_inj.1 h))
    · rintro rfl; rfl
  have hs1 : S.size ≤ 1000000 := by omega
  have ht1 : T.size ≤ 1000000 := by omega
  rw [← hS] at HA
  rw [← hT] at HB
  have DA := Lib.hid HA
  have DB := Lib.hid HB
  clear HA HB
  clear hS hT zs zt hx hy
  rcases Nat.lt_trichotomy S.size T.size with h | h | h
  · have HR := Lib.hid (show (-1 : Int) = cmpN x y from (if_pos (hl1 h)).symm)
    have qn : ((S.size : Int) != (T.size : Int)) = true := by rw [bne_iff_ne]; omega
    have qn2 : decide ((S.size : Int) < (T.size : Int)) = true := decide_eq_true (by omega)
    clear hl1 hl2 hl3 hq
    go_enter Try.func64, Try.ntmps64
    go_wp2_with fail
    (with_reducible refine (DA.out _).mono ?_)
    rintro e w4 ⟨rfl, rfl⟩
    go_wp2_with fail
    (with_reducible refine (DB.out _).mono ?_)
    rintro e w4 ⟨rfl, rfl⟩
    go_wp2
    go_ret
    exact ⟨ret_i HR.out, rfl⟩
  · have q3 := hl3 h
    have qe : ((S.size : Int) == (T.size : Int)) = true := by rw [h]; exact beq_self_eq_true _
    have qn : ((S.size : Int) != (T.size : Int)) = false := by rw [h]; exact bne_self_eq_false _
    have qe2 : (S.size == T.size) = true := by rw [h]; exact beq_self_eq_true _
    have ql : decide ((S.size : Int) < (T.size : Int)) = false := decide_eq_false (by omega)
    have ql2 : ¬ S.size < T.size := by omega
    clear hl1 hl2 hl3
    rcases Nat.lt_trichotomy x y with hxy | hxy | hxy
    · rw [decide_eq_true hxy] at q3
      have HR := Lib.hid (show (-1 : Int) = cmpN x y from (if_pos hxy).symm)
      have H := Lib.hid h
      clear hxy hq h
      go_enter Try.func64, Try.ntmps64
      go_wp2_with fail
      (with_reducible refine (DA.out _).mono ?_)
      rintro e w4 ⟨rfl, rfl⟩
      go_wp2_with fail
      (with_reducible refine (DB.out _).mono ?_)
      rintro e w4 ⟨rfl, rfl⟩
      go_wp2
      go_ret
      exact ⟨ret_i HR.out, rfl⟩
    · rw [decide_eq_false (by omega)] at q3
      rw [decide_eq_true hxy] at hq
      have HR := Lib.hid (show (0 : Int) = cmpN x y by unfold cmpN; rw [if_neg (by omega), if_pos hxy])
      have H := Lib.hid h
      clear hxy h
      go_enter Try.func64, Try.ntmps64
      go_wp2_with fail
      (with_reducible refine (DA.out _).mono ?_)
      rintro e w4 ⟨rfl, rfl⟩
      go_wp2_with fail
      (with_reducible refine (DB.out _).mono ?_)
      rintro e w4 ⟨rfl, rfl⟩
      go_wp2
      go_ret
      exact ⟨ret_i HR.out, rfl⟩
    · rw [decide_eq_false (by omega)] at q3
      rw [decide_eq_false (by omega)] at hq
      have HR := Lib.hid (show (1 : Int) = cmpN x y by unfold cmpN; rw [if_neg (by omega), if_neg (by omega)])
      have H := Lib.hid h
      clear hxy h
      go_enter Try.func64, Try.ntmps64
      go_wp2_with fail
      (with_reducible refine (DA.out _).mono ?_)
      rintro e w4 ⟨rfl, rfl⟩
      go_wp2_with fail
      (with_reducible refine (DB.out _).mono ?_)
      rintro e w4 ⟨rfl, rfl⟩
      go_wp2
      go_ret
      exact ⟨ret_i HR.out, rfl⟩
  · have hyx := hl2 h
    have qe : ((S.size : Int) == (T.size : Int)) = false := by rw [beq_eq_false_iff_ne]; omega
    have qn : ((S.size : Int) != (T.size : Int)) = true := by rw [bne_iff_ne]; omega
    have qe2 : (S.size == T.size) = false := by rw [beq_eq_false_iff_ne]; omega
    have ql : decide ((S.size : Int) < (T.size : Int)) = false := decide_eq_false (by omega)
    have ql2 : ¬ S.size < T.size := by omega
    rw [decide_eq_false (by omega)] at hq
    have HR := Lib.hid (show (1 : Int) = cmpN x y by unfold cmpN; rw [if_neg (by omega), if_neg (by omega)])
    clear hl1 hl2 hl3 hyx
    go_enter Try.func64, Try.ntmps64
    go_wp2_with fail
    (with_reducible refine (DA.out _).mono ?_)
    rintro e w4 ⟨rfl, rfl⟩
    go_wp2_with fail
    (with_reducible refine (DB.out _).mono ?_)
    rintro e w4 ⟨rfl, rfl⟩
    go_wp2
    go_ret
    exact ⟨ret_i HR.out, rfl⟩

theorem rcmp_any (la lb : List Nat) (w : World) (ha : Digs la) (hb : Digs lb) (h1 : la.length ≤ 100000) (h2 : lb.length ≤ 100000) :
    Calls Try.prog 64 #[.string (dStr la), .string (dStr lb)] w fun r w' => r = .returned (.int .i64 (cmpN (dVal la) (dVal lb))) ∧ w = w' := by
  have len : ∀ l : List Nat, Digs l → l.length ≤ 100000 → (digs (dVal l)).length ≤ 1000000 := fun l hl hn => by
    have := (digs_le (dVal l) (max 1 l.length) (by omega)).2 (Nat.lt_of_lt_of_le (dVal_lt hl) (Nat.pow_le_pow_right (by omega) (by omega)))
    omega
  exact rcmp_core _ _ _ _ w (len la ha h1) (len lb hb h2) (fun wx => rlead_any la wx ha (by omega)) (fun wx => rlead_any lb wx hb (by omega))

theorem noughtB : Lib.byteCells [(48 : UInt8)] = [.int .u8 48] := rfl
set_option maxHeartbeats 2000000 in
set_option maxRecDepth 100000 in
theorem rnoughts_any (n : Nat) (nI : Int) (w : World) (hI : nI = (n : Int)) (hn : n ≤ 100000) :
    Calls Try.prog 19 #[.int .i64 nI] w fun r w' => r = .returned (.string (dStr (List.replicate n 0))) ∧ Below w.heap.size w w' := by
  subst hI
  go_enter Try.func19, Try.ntmps19
  go_wp2
  go_loopw [3, 4] (fun v iv wr => ∃ k : Nat, iv = .int .i64 (k : Int) ∧ k ≤ n ∧ Row w.heap.size v (dB (List.replicate k 0)) wr ∧ Below w.heap.size w wr) (fun _ iv _ => n - (intOf iv).toNat)
  case atStart => exact ⟨0, rfl, by omega, Row.empty w, (Below.refl _ w).alloc (Nat.le_refl _) _⟩
  case round =>
    obtain ⟨k, rfl, hk, hR, hbw⟩ := hrel
    have HR := Lib.hid hR
    have HW := Lib.hid hbw
    clear hR hbw
    by_cases hlt : k < n
    · obtain ⟨nb, hnb⟩ : ∃ nb, nb = [(48 : UInt8)] := ⟨_, rfl⟩
      have BC : Hid (Lib.byteCells nb = [.int .u8 48]) := by show _ = _; rw [hnb]; exact noughtB
      have BN : Hid (dB (List.replicate (k + 1) 0) = dB (List.replicate k 0) ++ nb) := by show _ = _; rw [hnb, List.replicate_succ', dB_append]; rfl
      have BL : Hid (1 = nb.length) := by show _ = _; rw [hnb]; rfl
      have ZL : Hid ((dB (List.replicate k 0)).length = k) := by show _ = _; rw [dB_len, List.length_replicate]
      clear hnb
      go_wp2_with (at_builtin; go_loud (refine wp_append_new (w := wr) rfl _ _ rfl w.heap.size u3 (dB (List.replicate k 0)) rfl HR.out nb _ 1 rfl BL.out (by rw [BC.out]) (by rw [ZL.out]; omega) (by have := HW.out.size; omega) ?_))
      intro v5 W5 hR5 hb5
      have HR5 := Lib.hid hR5
      have HW5 := Lib.hid (HW.out.trans (hb5.mono (Nat.le_refl _)))
      clear hR5 hb5
      go_wp2
      go_roundw
      case rel => exact ⟨k + 1, by go_num, by omega, by rw [BN.out]; exact HR5.out, HW5.out⟩
      case measure => simp [intOf]; omega
    · obtain rfl : k = n := by omega
      obtain ⟨S, hS⟩ : ∃ S, S = dStr (List.replicate k 0) := ⟨_, rfl⟩
      have kc : (convert 70 9 u3).run Try.prog wr = .ok (.string S) wr := by rw [row_string HR.out, hS]; rfl
      have HS := Lib.hid hS
      clear hS
      go_wp2
      go_ret
      exact ⟨ret_s HS.out, HW.out⟩
end Go.Proofs.Ytpbljcjghjbjdaa
