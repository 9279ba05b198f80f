/- The reference's Check, Text and Print. -/
import Derived.Test.YtpbljcjghjbjdaaDoorDPrint
namespace Go.Proofs.YtpbljcjghjbjdaaDoor
open Go.RowKit

theorem ck_20 {n : Bool} {i f : ByteArray} (h : okB n i f = false) : (20 : Int) = ckE n i f := (ck_bad h).symm
theorem ok_size {n : Bool} {i f : ByteArray} (h : i.size = 0 ∨ 40 < i.size + f.size) : okB n i f = false := by
  unfold okB formB
  rcases h with h | h
  · rw [decide_eq_false (p := i.size ≠ 0) (by omega)]; simp
  · rw [decide_eq_false (p := i.size + f.size ≤ 40) (by omega)]; rfl

set_option maxHeartbeats 2000000 in
set_option maxRecDepth 100000 in
theorem refCheck_any (n : Bool) (i f : ByteArray) (w : World) (hi : i.size ≤ 140737488355328) (hf : f.size ≤ 140737488355328) :
    Calls Tryd.prog 42 #[.agg #[.bool n, .string i, .string f]] w fun e w' => e = .returned (.int .i64 (ckE n i f)) ∧ Below w.heap.size w w' := by
  have HI : Hid (i.size ≤ maxLen) := by unfold maxLen; exact (by omega : i.size ≤ 2 ^ 63 - 1)
  have HF : Hid (f.size ≤ maxLen) := by unfold maxLen; exact (by omega : f.size ≤ 2 ^ 63 - 1)
  by_cases h0 : i.size = 0
  · have q0 : decide ((i.size : Int) < 1) = true := decide_eq_true (by omega)
    have E := Lib.hid (ck_20 (n := n) (ok_size (f := f) (.inl h0)))
    clear h0
    go_enter Tryd.func42, Tryd.ntmps42
    go_wp2
    go_ret
    exact ⟨ret_int E.out, (Below.refl _ w).alloc (Nat.le_refl _) _⟩
  have q0 : decide ((i.size : Int) < 1) = false := decide_eq_false (by omega)
  by_cases h1 : 40 < i.size
  · have q1 : decide ((40 : Int) < (i.size : Int)) = true := decide_eq_true (by omega)
    have E := Lib.hid (ck_20 (n := n) (ok_size (i := i) (f := f) (.inr (by omega))))
    go_enter Tryd.func42, Tryd.ntmps42
    go_wp2
    go_ret
    exact ⟨ret_int E.out, (Below.refl _ w).alloc (Nat.le_refl _) _⟩
  have q1 : decide ((40 : Int) < (i.size : Int)) = false := decide_eq_false (by omega)
  by_cases h2 : 40 < f.size
  · have q2 : decide ((40 : Int) < (f.size : Int)) = true := decide_eq_true (by omega)
    have E := Lib.hid (ck_20 (n := n) (ok_size (i := i) (f := f) (.inr (by omega))))
    go_enter Tryd.func42, Tryd.ntmps42
    go_wp2
    go_ret
    exact ⟨ret_int E.out, (Below.refl _ w).alloc (Nat.le_refl _) _⟩
  have q2 : decide ((40 : Int) < (f.size : Int)) = false := decide_eq_false (by omega)
  by_cases h3 : 40 < i.size + f.size
  · have q3 : decide ((40 : Int) < (i.size : Int) + (f.size : Int)) = true := decide_eq_true (by omega)
    have E := Lib.hid (ck_20 (n := n) (ok_size (i := i) (f := f) (.inr h3)))
    go_enter Tryd.func42, Tryd.ntmps42
    go_wp2
    go_ret
    exact ⟨ret_int E.out, (Below.refl _ w).alloc (Nat.le_refl _) _⟩
  have q3 : decide ((40 : Int) < (i.size : Int) + (f.size : Int)) = false := decide_eq_false (by omega)
  have hp : 0 < i.size := by omega
  have E0 := Lib.hid (show decide (i.size ≠ 0) = true from decide_eq_true h0)
  have E3 := Lib.hid (show decide (i.size + f.size ≤ 40) = true from decide_eq_true (by omega))
  have Z := Lib.hid (byteN_at i 0 hp)
  clear h0 h1 h2 h3
  have DD := Lib.hid digits_any
  have DN := Lib.hid (fun wx => nought_any n i f wx HI.out HF.out)
  cases hd1 : dgB i with
  | false =>
    have E := Lib.hid (ck_20 (n := n) (i := i) (f := f) (by unfold okB formB; rw [hd1]; simp))
    go_enter Tryd.func42, Tryd.ntmps42
    go_wp2_with (first | (go_at_call 85; refine (DD.out _ _ (by first | exact HI.out | exact HF.out)).mono ?_; rintro e w' ⟨rfl, rfl⟩))
    go_ret
    exact ⟨ret_int E.out, (Below.refl _ w).alloc (Nat.le_refl _) _⟩
  | true =>
    cases hd2 : dgB f with
    | false =>
      have E := Lib.hid (ck_20 (n := n) (i := i) (f := f) (by unfold okB formB; rw [hd2]; simp))
      go_enter Tryd.func42, Tryd.ntmps42
      go_wp2_with (first | (go_at_call 85; refine (DD.out _ _ (by first | exact HI.out | exact HF.out)).mono ?_; rintro e w' ⟨rfl, rfl⟩))
      go_ret
      exact ⟨ret_int E.out, (Below.refl _ w).alloc (Nat.le_refl _) _⟩
    | true =>
      have OK : Hid (∀ b : Bool, (!(decide (byteN i 0 = 48) && decide (1 < i.size)) && !(n && zrB i && zrB f)) = b → (if b then 0 else 20) = ckE n i f) := by
        intro b hb
        unfold ckE okB formB
        rw [E0.out, E3.out, hd1, hd2]
        simp only [Bool.true_and]
        rw [hb]
      by_cases h48 : i[0].toNat = 48
      · have q4 : ((i[0].toNat : Int) == 48) = true := by simp; omega
        have H48 := Lib.hid (show byteN i 0 = 48 by rw [← Z.out]; exact h48)
        clear h48
        by_cases hl : 1 < i.size
        · have q5 : decide ((1 : Int) < (i.size : Int)) = true := decide_eq_true (by omega)
          have E := Lib.hid (OK.out false (by rw [decide_eq_true H48.out, decide_eq_true hl]; rfl))
          go_enter Tryd.func42, Tryd.ntmps42
          go_wp2_with (first | (go_at_call 85; refine (DD.out _ _ (by first | exact HI.out | exact HF.out)).mono ?_; rintro e w' ⟨rfl, rfl⟩))
          go_ret
          exact ⟨ret_int E.out, (Below.refl _ w).alloc (Nat.le_refl _) _⟩
        · have q5 : decide ((1 : Int) < (i.size : Int)) = false := decide_eq_false (by omega)
          have HL := Lib.hid hl
          clear hl
          cases n with
          | false =>
            have E := Lib.hid (OK.out true (by rw [decide_eq_false HL.out]; simp))
            go_enter Tryd.func42, Tryd.ntmps42
            go_wp2_with (first | (go_at_call 85; refine (DD.out _ _ (by first | exact HI.out | exact HF.out)).mono ?_; rintro e w' ⟨rfl, rfl⟩))
            go_ret
            exact ⟨ret_int E.out, (Below.refl _ w).alloc (Nat.le_refl _) _⟩
          | true =>
            have E := Lib.hid (OK.out (!(zrB i && zrB f)) (by rw [decide_eq_false HL.out]; simp))
            generalize hz : (zrB i && zrB f) = z at *
            clear hz
            cases z
            all_goals
              go_enter Tryd.func42, Tryd.ntmps42
              go_wp2_with (first | (go_at_call 85; refine (DD.out _ _ (by first | exact HI.out | exact HF.out)).mono ?_; rintro e w' ⟨rfl, rfl⟩) | (go_at_call 86; (with_reducible refine (DN.out _).mono ?_)))
              rintro e w' ⟨rfl, hb⟩
              go_wp2
              go_ret
              exact ⟨ret_int E.out, ((Below.refl _ w).alloc (Nat.le_refl _) _).trans (hb.mono (by simp))⟩
      · have q4 : ((i[0].toNat : Int) == 48) = false := by simp; omega
        have H48 := Lib.hid (show ¬ byteN i 0 = 48 by rw [← Z.out]; exact h48)
        clear h48
        cases n with
        | false =>
          have E := Lib.hid (OK.out true (by rw [decide_eq_false H48.out]; simp))
          go_enter Tryd.func42, Tryd.ntmps42
          go_wp2_with (first | (go_at_call 85; refine (DD.out _ _ (by first | exact HI.out | exact HF.out)).mono ?_; rintro e w' ⟨rfl, rfl⟩))
          go_ret
          exact ⟨ret_int E.out, (Below.refl _ w).alloc (Nat.le_refl _) _⟩
        | true =>
          have E := Lib.hid (OK.out (!(zrB i && zrB f)) (by rw [decide_eq_false H48.out]; simp))
          generalize hz : (zrB i && zrB f) = z at *
          clear hz
          cases z
          all_goals
            go_enter Tryd.func42, Tryd.ntmps42
            go_wp2_with (first | (go_at_call 85; refine (DD.out _ _ (by first | exact HI.out | exact HF.out)).mono ?_; rintro e w' ⟨rfl, rfl⟩) | (go_at_call 86; (with_reducible refine (DN.out _).mono ?_)))
            rintro e w' ⟨rfl, hb⟩
            go_wp2
            go_ret
            exact ⟨ret_int E.out, ((Below.refl _ w).alloc (Nat.le_refl _) _).trans (hb.mono (by simp))⟩
theorem refCheck_ok (d : Dc) (w : World) (h : d.Ok) :
    Calls Tryd.prog 42 #[.agg #[.bool d.neg, .string (dStr d.i), .string (dStr d.f)]] w fun e w' => e = .returned (.int .i64 0) ∧ Below w.heap.size w w' := by
  have := refCheck_any d.neg (dStr d.i) (dStr d.f) w (by rw [dStr_size]; have := h.most; omega) (by rw [dStr_size]; have := h.most; omega)
  rw [ck_ok h] at this
  exact this
theorem refCheck_bad (n : Bool) (i f : ByteArray) (w : World) (hi : i.size ≤ 140737488355328) (hf : f.size ≤ 140737488355328) (h : okB n i f = false) :
    Calls Tryd.prog 42 #[.agg #[.bool n, .string i, .string f]] w fun e w' => e = .returned (.int .i64 20) ∧ Below w.heap.size w w' := by
  have := refCheck_any n i f w hi hf
  rw [ck_bad h] at this
  exact this

set_option maxHeartbeats 1000000 in
set_option maxRecDepth 100000 in
theorem refText_any (d : Dc) (w : World) (hm : d.i.length + d.f.length ≤ 40) :
    Calls Tryd.prog 46 #[.agg #[.bool d.neg, .string (dStr d.i), .string (dStr d.f)]] w fun e w' => e = .returned (.string (txS d)) ∧ Below w.heap.size w w' := by
  have si : (dStr d.i).size = d.i.length := dStr_size d.i
  have sf : (dStr d.f).size = d.f.length := dStr_size d.f
  have TX : Hid (txS d = ⟨(txt d.rw).toArray⟩) := rfl
  have fin : ∀ (S : ByteArray), S.data.toList = txt d.rw → S = txS d := by
    intro S hS
    apply ByteArray.ext
    apply Array.ext'
    rw [hS, TX.out]
  have FIN := Lib.hid fin
  clear fin
  have L1 : (dStr d.i).data.toList = dB d.i := dStr_toList d.i
  have L2 : (dStr d.f).data.toList = dB d.f := dStr_toList d.f
  have HL1 := Lib.hid L1
  have HL2 := Lib.hid L2
  clear L1 L2
  have nul : ∀ l : List Nat, dB l = [] ↔ l = [] := fun l => by unfold dB; simp
  have NUL := Lib.hid nul
  clear nul
  cases hn : d.neg
  all_goals
    have HN := Lib.hid hn
    clear hn
    by_cases hf : d.f.length = 0
    · have n1 : (dStr d.f).toList = [] := toList_nil.2 (by rw [dStr_size]; exact hf)
      have HF : Hid (d.f = []) := List.eq_nil_of_length_eq_zero hf
      clear hf
      go_enter Tryd.func46, Tryd.ntmps46
      go_wp2
      go_ret
      refine ⟨ret_str (FIN.out _ ?_), (Below.refl _ w).alloc (Nat.le_refl _) _⟩
      simp [txt, Dc.rw, HN.out, HL1.out, (NUL.out d.f).2 HF.out, ByteArray.data_append]
    · have n1 : ¬ (dStr d.f).toList = [] := fun h => hf (by have := toList_nil.1 h; rw [dStr_size] at this; exact this)
      have n2 : (dStr d.f).toList.isEmpty = false := by simpa using n1
      have HF : Hid (¬ d.f = []) := fun h => hf (by rw [h]; rfl)
      clear hf
      go_enter Tryd.func46, Tryd.ntmps46
      go_wp2
      go_ret
      refine ⟨ret_str (FIN.out _ ?_), (Below.refl _ w).alloc (Nat.le_refl _) _⟩
      have e : ¬ dB d.f = [] := fun h => HF.out ((NUL.out d.f).1 h)
      simp [txt, Dc.rw, HN.out, HL1.out, HL2.out, e, ByteArray.data_append]

end Go.Proofs.YtpbljcjghjbjdaaDoor
