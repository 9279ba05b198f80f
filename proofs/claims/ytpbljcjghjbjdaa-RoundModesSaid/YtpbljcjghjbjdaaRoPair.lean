/- Places of both sides. -/
import Derived.Test.YtpbljcjghjbjdaaRoPl
import Derived.Test.YtpbljcjghjbjdaaRrPl
namespace Go.Proofs.Ytpbljcjghjbjdaa
open Go.RowKit

/-- Digits without noughts ahead are their number's. -/
theorem led {l : List Nat} (h : Digs l) (hl : l.length = 1 ∨ ∃ x, l.head? = some x ∧ x ≠ 0) : digs (dVal l) = l := by
  rw [← dLead_digs l h]
  cases l with
  | nil => rcases hl with h | ⟨x, h, -⟩ <;> simp at h
  | cons a t =>
    cases t with
    | nil => rfl
    | cons b t =>
      rcases hl with h | ⟨x, h1, h2⟩
      · simp at h
      · simp at h1
        subst h1
        exact if_neg h2
theorem digs_pow (k : Nat) : digs (10 ^ k) = 1 :: List.replicate k 0 := by
  have h := led (l := 1 :: List.replicate k 0) (Digs.cons (by omega) (Digs.zeros k)) (.inr ⟨1, rfl, by omega⟩)
  rw [dVal_cons, dVal_zeros, List.length_replicate, Nat.one_mul, Nat.add_zero] at h
  exact h
/-- One, so many places behind the point. -/
theorem tenth_ok (m : Nat) (h : m ≤ 39) : ∃ t, shD (natD 1) (-(m : Int)) = some t ∧ t.Ok ∧ t.num = 1 ∧ t.f.length = m ∧ t.neg = false := by
  have e : shD (natD 1) (-(m : Int)) = mk 1 m := by
    unfold shD
    rw [if_neg (by show ¬ ((0 : Nat) : Int) < _; omega), natD_z]
    congr 1
    show (((0 : Nat) : Int) - -(m : Int)).toNat = m
    omega
  rw [e]
  cases h1 : mk 1 m with
  | none =>
    exfalso
    rcases mk_none.1 h1 with h2 | h2
    · omega
    · exact absurd h2 (by decide)
  | some t =>
    obtain ⟨z1, z2, z3, z4, z5⟩ := mk_some h1
    exact ⟨t, rfl, z3, z4, z2, z5⟩
/-- What is made of so many units, if there is room. -/
theorem made_some {neg : Bool} {Q p : Nat} {P : List Nat} (hP : P = padTo (p + 1) (digs Q)) (h : ¬ 40 < P.length) :
    mkN neg Q p = some ⟨neg && decide (Q ≠ 0), digs (dVal (P.take (P.length - p))), P.drop (P.length - p)⟩ := by
  have h1 : mkN neg Q p = some ⟨neg && decide (Q ≠ 0), P.take (P.length - p), P.drop (P.length - p)⟩ := by
    rw [mkN_digs, ← hP, if_neg h]
  have h2 := (mk_some h1).2.2.1
  rw [h1, led h2.di h2.lead]
theorem pad_self {d : Dc} (h : d.Ok) : padD d 0 = some d := by
  unfold padD mkN
  rw [Nat.max_zero]
  have e : d.raised d.f.length = d.num := by unfold Dc.raised; rw [Nat.sub_self, Nat.pow_zero, Nat.mul_one]
  rw [e]
  exact mk_ok h

def PlP (mode most : Int) (n : Bool) (i f : ByteArray) (v : Value) : Prop := ∀ w : World, Calls Try.prog 5 #[.agg #[.bool n, .string i, .string f], .int .i64 mode, .int .i64 most] w fun e w' => e = .returned v ∧ Below w.heap.size w w'
def PlR (mode most : Int) (n : Bool) (i f : ByteArray) (v : Value) : Prop := ∀ w : World, Calls Try.prog 6 #[.agg #[.bool n, .string i, .string f], .int .i64 mode, .int .i64 most] w fun e w' => e = .returned v ∧ Below w.heap.size w w'
def zeroV (c : Int) : Value := .tuple #[.agg #[.bool false, .string ⟨#[]⟩, .string ⟨#[]⟩], .int .i64 c]

/-- What rounding to places tells of a decimal that may be. -/
theorem places_ok (d : Dc) (mode : Int) (m : Nat) (hd : d.Ok) (m1 : 1 ≤ mode) (m8 : mode ≤ 8) (hm : m ≤ 40) :
    (d.f.length ≤ m → PlP mode m d.neg (dStr d.i) (dStr d.f) (RES (some d)) ∧ PlR mode m d.neg (dStr d.i) (dStr d.f) (RES (some d))) ∧
    (¬ d.f.length ≤ m → mode = 8 ∧ d.num % 10 ^ (d.f.length - m) ≠ 0 → PlP mode m d.neg (dStr d.i) (dStr d.f) (zeroV 31) ∧ PlR mode m d.neg (dStr d.i) (dStr d.f) (zeroV 31)) ∧
    (¬ d.f.length ≤ m → ¬ (mode = 8 ∧ d.num % 10 ^ (d.f.length - m) ≠ 0) → ∃ x, mkN d.neg (roQ mode d.neg d.num (10 ^ (d.f.length - m))) m = some x ∧ PlP mode m d.neg (dStr d.i) (dStr d.f) (RES (some x)) ∧ PlR mode m d.neg (dStr d.i) (dStr d.f) (RES (some x))) := by
  have sz : (dStr d.f).size = d.f.length := dStr_size d.f
  have szi : (dStr d.i).size = d.i.length := dStr_size d.i
  have hmost := hd.most
  have hb1 : (dStr d.i).size ≤ 140737488355328 := by omega
  have hb2 : (dStr d.f).size ≤ 140737488355328 := by omega
  have hmB : modeB mode = true := by unfold modeB; rw [decide_eq_true m1, decide_eq_true m8]; rfl
  have hE : modeE (okB d.neg (dStr d.i) (dStr d.f)) mode = 0 := by unfold modeE; rw [ok_of hd, hmB]; rfl
  have HC := fun wx => checkRange_any d.neg (dStr d.i) (dStr d.f) mode 0 0 m wx hb1 hb2
  have hR : rangeE (okB d.neg (dStr d.i) (dStr d.f)) mode 0 0 m = 0 := by unfold rangeE; rw [if_pos hE, if_neg (by omega)]
  rw [hR] at HC
  have HA := fun wx => asked_any d.neg (dStr d.i) (dStr d.f) mode wx hb1 hb2
  rw [hE] at HA
  refine ⟨fun hle => ⟨fun w => ?_, fun w => ?_⟩, fun hle h8 => ?_, fun hle h8 => ?_⟩
  · have HP := fun wx => pad_ok d 0 wx _ (pad_self hd) hd (by omega)
    exact pl_ok d.neg _ _ mode m _ _ _ _ w HC (fun wx => tp_pad d.neg _ _ mode m _ _ _ _ wx HP (by omega))
  · exact rp_same d.neg _ _ mode m w HA (by omega) (by omega) (by omega)
  all_goals
    have hf := f_lt hd
    obtain ⟨t, t1, t2, t3, t4, t5⟩ := tenth_ok m (by omega)
    have hmax : max d.f.length t.f.length = d.f.length := by omega
    have hX : d.raised d.f.length = d.num := by unfold Dc.raised; rw [Nat.sub_self, Nat.pow_zero, Nat.mul_one]
    have hU : t.raised d.f.length = 10 ^ (d.f.length - m) := by unfold Dc.raised; rw [t3, t4, Nat.one_mul]
    have HM := fun wx => multiple_both mode d t wx m1 m8 hd t2 t5 (by omega)
    rw [hmax, hX, hU] at HM
    have HPW := fun wx => power_ok (-(m : Int)) t wx (by omega) (by omega) t1
    have HD : Digs (d.i ++ d.f) := hd.di.append hd.df
    have hN : ∀ (wx : World) {nI : Int}, nI = ((dStr d.f).size : Int) - m → Calls Try.prog 19 #[.int .i64 nI] wx fun r w' => r = .returned (.string (dStr (List.replicate (d.f.length - m) 0))) ∧ Below wx.heap.size wx w' := fun wx nI h => rnoughts_any (d.f.length - m) nI wx (by omega) (by omega)
    have hT : ∀ (wx : World) {X Y : ByteArray}, X = dStr d.i ++ dStr d.f → Y = ⟨#[49]⟩ ++ dStr (List.replicate (d.f.length - m) 0) → Calls Try.prog 18 #[.int .i64 mode, .bool d.neg, .string X, .string Y] wx fun r w' => r = .returned (if mode = 8 ∧ d.num % 10 ^ (d.f.length - m) ≠ 0 then .tuple #[.string (dStr (digs (d.num / 10 ^ (d.f.length - m)))), .int .i64 31] else .tuple #[.string (dStr (digs (roQ mode d.neg d.num (10 ^ (d.f.length - m))))), .int .i64 0]) ∧ Below wx.heap.size wx w' := by
      intro wx X Y hX hY
      rw [hX, hY, one_text, dStr_append, dStr_append]
      have := rturned_both mode d.neg (d.i ++ d.f) (10 ^ (d.f.length - m)) wx m1 m8 (Nat.pow_pos (by omega)) HD (by rw [List.length_append]; omega) (by rw [digs_pow, List.length_cons, List.length_replicate]; omega)
      rw [digs_pow] at this
      exact this
    have hNs : (dStr (List.replicate (d.f.length - m) 0)).size ≤ 1000 := by rw [dStr_size, List.length_replicate]; omega
  · rw [if_pos h8] at HM hT
    refine ⟨fun w => ?_, fun w => ?_⟩
    · have HM2 := fun wx => tp_mult d.neg _ _ mode m _ _ _ _ _ _ _ wx HPW HM (by omega) (by omega) (by omega)
      exact pl_ok d.neg _ _ mode m _ _ _ _ w HC HM2
    · exact rp_err d.neg _ _ mode m _ _ w HA hN hT (by omega) (by omega) (by omega) (by omega) hNs
  · rw [if_neg h8] at HM hT
    have hro : roD mode d t = mkN d.neg (roQ mode d.neg d.num (10 ^ (d.f.length - m))) m := by
      unfold roD
      rw [hmax, hX, hU, t3, t4, Nat.mul_one]
    rw [hro] at HM
    generalize hQ : roQ mode d.neg d.num (10 ^ (d.f.length - m)) = Q at *
    obtain ⟨P, hP⟩ : ∃ P, P = padTo (m + 1) (digs Q) := ⟨_, rfl⟩
    have hQl : (digs Q).length ≤ 40 := by
      refine (digs_le Q 40 (by omega)).2 ?_
      have hn : d.num < 10 ^ (d.i.length + d.f.length) := by
        have := dVal_lt HD
        rw [List.length_append] at this
        exact this
      have hq : d.num / 10 ^ (d.f.length - m) < 10 ^ (d.i.length + m) := by
        refine Nat.div_lt_of_lt_mul ?_
        rw [← Nat.pow_add]
        rw [show d.f.length - m + (d.i.length + m) = d.i.length + d.f.length by omega]
        exact hn
      have hQ2 : Q ≤ d.num / 10 ^ (d.f.length - m) + 1 := by
        rw [← hQ]
        unfold roQ
        split <;> omega
      have h10 : 10 ^ (d.i.length + m) < 10 ^ (d.i.length + m + 1) := Nat.pow_lt_pow_right (by omega) (by omega)
      have h40 : 10 ^ (d.i.length + m + 1) ≤ 10 ^ 40 := Nat.pow_le_pow_right (by omega) (by omega)
      omega
    have hPl : ¬ 40 < P.length := by rw [hP, padTo_len]; omega
    have hms := made_some (neg := d.neg) hP hPl
    refine ⟨_, hms, fun w => ?_, fun w => ?_⟩
    · rw [hms] at HM
      have HM2 := fun wx => tp_mult d.neg _ _ mode m _ _ _ _ _ _ _ wx HPW HM (by omega) (by omega) (by omega)
      exact pl_ok d.neg _ _ mode m _ _ _ _ w HC HM2
    · have HMd : ∀ wx : World, Calls Try.prog 20 #[.bool d.neg, .string (dStr (digs Q)), .int .i64 (m : Int)] wx fun r w' => r = .returned (.agg #[.bool (d.neg && decide (Q ≠ 0)), .string (dStr (digs (dVal (P.take (P.length - m))))), .string (dStr (P.drop (P.length - m)))]) ∧ Below wx.heap.size wx w' := by
        intro wx
        cases hn : d.neg with
        | true => have := rmade_true (digs Q) m P wx hP (digs_digs Q) (by omega) (by omega); rw [dVal_digs] at this; exact this
        | false => have := rmade_false (digs Q) m P wx hP (digs_digs Q) (by omega) (by omega); rw [dVal_digs] at this; exact this
      exact rp_ok d.neg _ _ mode m _ _ _ _ _ w HA hN hT HMd (by omega) (by omega) (by omega) (by omega) hNs

/-- Both sides tell the same of any decimal, mode and number of places. -/
theorem places_pair (n : Bool) (i f : ByteArray) (mode most : Int) (hi : i.size ≤ 140737488355328) (hf : f.size ≤ 140737488355328) :
    ∃ (yn : Bool) (yi yf : ByteArray) (c : Int), PlP mode most n i f (.tuple #[.agg #[.bool yn, .string yi, .string yf], .int .i64 c]) ∧ PlR mode most n i f (.tuple #[.agg #[.bool yn, .string yi, .string yf], .int .i64 c]) := by
  have HC := fun wx => checkRange_any n i f mode 0 0 most wx hi hf
  have HA := fun wx => asked_any n i f mode wx hi hf
  by_cases hE : modeE (okB n i f) mode = 0
  · rw [hE] at HA
    by_cases h1 : most < 0
    · rw [show rangeE (okB n i f) mode 0 0 most = 1 by unfold rangeE; rw [if_pos hE, if_pos (by omega)]] at HC
      exact ⟨_, _, _, _, fun w => pl_bad n i f mode most 1 w HC (by decide), fun w => rp_lo n i f mode most w HA h1⟩
    by_cases h2 : 40 < most
    · rw [show rangeE (okB n i f) mode 0 0 most = 1 by unfold rangeE; rw [if_pos hE, if_pos (by omega)]] at HC
      exact ⟨_, _, _, _, fun w => pl_bad n i f mode most 1 w HC (by decide), fun w => rp_hi n i f mode most w HA h1 h2⟩
    obtain ⟨m, rfl⟩ : ∃ m : Nat, most = m := ⟨most.toNat, by omega⟩
    cases hk : okB n i f with
    | false => rw [hk] at hE; exact absurd hE (by unfold modeE; rw [if_neg Bool.false_ne_true]; decide)
    | true =>
      rw [hk] at hE
      have hmB : modeB mode = true := by
        cases h : modeB mode with
        | true => rfl
        | false => unfold modeE at hE; rw [h] at hE; exact absurd hE (by decide)
      unfold modeB at hmB
      simp only [Bool.and_eq_true, decide_eq_true_eq] at hmB
      obtain ⟨d, hd, rfl, rfl, rfl⟩ := ok_cases hk
      obtain ⟨p1, p2, p3⟩ := places_ok d mode m hd hmB.1 hmB.2 (by omega)
      by_cases hle : d.f.length ≤ m
      · exact ⟨_, _, _, _, (p1 hle).1, (p1 hle).2⟩
      by_cases h8 : mode = 8 ∧ d.num % 10 ^ (d.f.length - m) ≠ 0
      · exact ⟨_, _, _, _, (p2 hle h8).1, (p2 hle h8).2⟩
      · obtain ⟨x, -, x1, x2⟩ := p3 hle h8
        exact ⟨_, _, _, _, x1, x2⟩
  · rw [show rangeE (okB n i f) mode 0 0 most = modeE (okB n i f) mode by unfold rangeE; rw [if_neg hE]] at HC
    have he : (modeE (okB n i f) mode != 0) = true := by simpa using hE
    exact ⟨_, _, _, _, fun w => pl_bad n i f mode most _ w HC he, fun w => rp_bad n i f mode most _ w HA he⟩
end Go.Proofs.Ytpbljcjghjbjdaa
