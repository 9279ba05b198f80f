/- Fix of both sides tells the same. -/
import Derived.Test.YtmaljkjcibdbgaaRrFix
import Derived.Test.YtmaljkjcibdbgaaRrFixB
import Derived.Test.YtmaljkjcibdbgaaRrMul
namespace Go.Proofs.Ytmaljkjcibdbgaa
open Go.RowKit

/-- A decimal of the right form, however long, made at its own scale. -/
theorem mk_form {d : Dc} (hg : d.Dg) (lead : d.i.length = 1 ∨ ∃ x, d.i.head? = some x ∧ x ≠ 0) (sign : d.neg = true → d.num ≠ 0) : mkN d.neg (d.raised d.f.length) d.f.length = if 40 < d.i.length + d.f.length then none else some d := by
  have e : mkN d.neg (d.raised d.f.length) d.f.length = mk d.z d.f.length := by
    unfold mkN Dc.raised Dc.z
    rw [Nat.sub_self, Nat.pow_zero, Nat.mul_one]
  rw [e]
  by_cases c : 40 < d.i.length + d.f.length
  · rw [if_pos c, mk_none]
    rcases lead with h | ⟨x, hx, hx0⟩
    · left; omega
    · by_cases hf : 40 ≤ d.f.length
      · exact .inl hf
      · right
        have hz : d.z.natAbs = d.num := by unfold Dc.z; split <;> omega
        rw [hz]
        cases hi : d.i with
        | nil => rw [hi] at hx; cases hx
        | cons y m =>
          rw [hi] at hx c
          simp at hx
          subst hx
          unfold Dc.num
          rw [hi, List.cons_append, dVal_cons]
          have h1 : 10 ^ 40 ≤ 10 ^ (m ++ d.f).length := Nat.pow_le_pow_right (by omega) (by rw [List.length_append]; simp at c; omega)
          have h2 : 1 * 10 ^ (m ++ d.f).length ≤ y * 10 ^ (m ++ d.f).length := Nat.mul_le_mul_right _ (by omega)
          omega
  · rw [if_neg c]
    exact mk_ok ⟨hg.di, hg.df, hg.one, by omega, lead, sign⟩
def padded (d : Dc) (j : Nat) : Dc := ⟨d.neg, d.i, d.f ++ List.replicate j 0⟩
theorem pad_form {d : Dc} (hd : d.Ok) (k M : Nat) (hM : M = max d.f.length k) : padD d k = if 40 < d.i.length + M then none else some (padded d (M - d.f.length)) := by
  have hl : (padded d (M - d.f.length)).f.length = M := by show (d.f ++ List.replicate _ 0).length = M; rw [List.length_append, List.length_replicate]; omega
  have hn : (padded d (M - d.f.length)).num = d.raised M := by
    rw [← raised_digs d M, List.append_assoc]
    rfl
  have hr : (padded d (M - d.f.length)).raised M = d.raised M := by
    unfold Dc.raised
    rw [hl, hn, Nat.sub_self, Nat.pow_zero, Nat.mul_one]
    rfl
  have hg : (padded d (M - d.f.length)).Dg := ⟨hd.di, .append hd.df (.zeros _), hd.one⟩
  have := mk_form hg hd.lead (fun h => by
    rw [hn]
    have := hd.sign h
    exact Nat.ne_of_gt (Nat.mul_pos (Nat.pos_of_ne_zero this) (Nat.pow_pos (by omega))))
  rw [hl, hr] at this
  show mkN d.neg (d.raised (max d.f.length k)) (max d.f.length k) = _
  rw [← hM]
  exact this


def TpP (mode most : Int) (n : Bool) (i f : ByteArray) (v : Value) : Prop := ∀ w : World, Calls Try.prog 70 #[.agg #[.bool n, .string i, .string f], .int .i64 mode, .int .i64 most] w fun e w' => e = .returned v ∧ Below w.heap.size w w'
def FxP (mode least most : Int) (n : Bool) (i f : ByteArray) (v : Value) : Prop := ∀ w : World, Calls Try.prog 35 #[.agg #[.bool n, .string i, .string f], .int .i64 mode, .int .i64 least, .int .i64 most] w fun e w' => e = .returned v ∧ Below w.heap.size w w'
def FxR (mode least most : Int) (n : Bool) (i f : ByteArray) (v : Value) : Prop := ∀ w : World, Calls Try.prog 36 #[.agg #[.bool n, .string i, .string f], .int .i64 mode, .int .i64 least, .int .i64 most] w fun e w' => e = .returned v ∧ Below w.heap.size w w'
/-- What toPlaces and the reference's Places tell of a decimal that may be. -/
theorem tplaces_ok (d : Dc) (mode : Int) (m : Nat) (hd : d.Ok) (m1 : 1 ≤ mode) (m8 : mode ≤ 8) (hm : m ≤ 40) :
    (d.f.length ≤ m → TpP mode m d.neg (dStr d.i) (dStr d.f) (RES (some d)) ∧ PlR mode m d.neg (dStr d.i) (dStr d.f) (RES (some d))) ∧
    (¬ d.f.length ≤ m → mode = 8 ∧ d.num % 10 ^ (d.f.length - m) ≠ 0 → TpP mode m d.neg (dStr d.i) (dStr d.f) (zeroV 31) ∧ PlR mode m d.neg (dStr d.i) (dStr d.f) (zeroV 31)) ∧
    (¬ d.f.length ≤ m → ¬ (mode = 8 ∧ d.num % 10 ^ (d.f.length - m) ≠ 0) → ∃ x, mkN d.neg (roQ mode d.neg d.num (10 ^ (d.f.length - m))) m = some x ∧ TpP mode m d.neg (dStr d.i) (dStr d.f) (RES (some x)) ∧ PlR mode m d.neg (dStr d.i) (dStr d.f) (RES (some x))) := by
  have sz : (dStr d.f).size = d.f.length := dStr_size d.f
  have szi : (dStr d.i).size = d.i.length := dStr_size d.i
  have hmost := hd.most
  have hb1 : (dStr d.i).size ≤ 140737488355328 := by omega
  have hb2 : (dStr d.f).size ≤ 140737488355328 := by omega
  have hmB : modeB mode = true := by unfold modeB; rw [decide_eq_true m1, decide_eq_true m8]; rfl
  have hE : modeE (okB d.neg (dStr d.i) (dStr d.f)) mode = 0 := by unfold modeE; rw [ok_of hd, hmB]; rfl
  have HC := fun wx => checkRange_any d.neg (dStr d.i) (dStr d.f) mode 0 0 m wx hb1 hb2
  have hR : rangeE (okB d.neg (dStr d.i) (dStr d.f)) mode 0 0 m = 0 := by unfold rangeE; rw [if_pos hE, if_neg (by omega)]
  rw [hR] at HC
  have HA := fun wx => asked_any d.neg (dStr d.i) (dStr d.f) mode wx hb1 hb2
  rw [hE] at HA
  refine ⟨fun hle => ⟨fun w => ?_, fun w => ?_⟩, fun hle h8 => ?_, fun hle h8 => ?_⟩
  · have HP := fun wx => pad_ok d 0 wx _ (pad_self hd) hd (by omega)
    exact tp_pad d.neg _ _ mode m _ _ _ _ w HP (by omega)
  · exact rp_same d.neg _ _ mode m w HA (by omega) (by omega) (by omega)
  all_goals
    have hf := f_lt hd
    obtain ⟨t, t1, t2, t3, t4, t5⟩ := tenth_ok m (by omega)
    have hmax : max d.f.length t.f.length = d.f.length := by omega
    have hX : d.raised d.f.length = d.num := by unfold Dc.raised; rw [Nat.sub_self, Nat.pow_zero, Nat.mul_one]
    have hU : t.raised d.f.length = 10 ^ (d.f.length - m) := by unfold Dc.raised; rw [t3, t4, Nat.one_mul]
    have HM := fun wx => multiple_both mode d t wx m1 m8 hd t2 t5 (by omega)
    rw [hmax, hX, hU] at HM
    have HPW := fun wx => power_ok (-(m : Int)) t wx (by omega) (by omega) t1
    have HD : Digs (d.i ++ d.f) := hd.di.append hd.df
    have hN : ∀ (wx : World) {nI : Int}, nI = ((dStr d.f).size : Int) - m → Calls Try.prog 73 #[.int .i64 nI] wx fun r w' => r = .returned (.string (dStr (List.replicate (d.f.length - m) 0))) ∧ Below wx.heap.size wx w' := fun wx nI h => rnoughts_any (d.f.length - m) nI wx (by omega) (by omega)
    have hT : ∀ (wx : World) {X Y : ByteArray}, X = dStr d.i ++ dStr d.f → Y = ⟨#[49]⟩ ++ dStr (List.replicate (d.f.length - m) 0) → Calls Try.prog 72 #[.int .i64 mode, .bool d.neg, .string X, .string Y] wx fun r w' => r = .returned (if mode = 8 ∧ d.num % 10 ^ (d.f.length - m) ≠ 0 then .tuple #[.string (dStr (digs (d.num / 10 ^ (d.f.length - m)))), .int .i64 31] else .tuple #[.string (dStr (digs (roQ mode d.neg d.num (10 ^ (d.f.length - m))))), .int .i64 0]) ∧ Below wx.heap.size wx w' := by
      intro wx X Y hX hY
      rw [hX, hY, one_text, dStr_append, dStr_append]
      have := rturned_both mode d.neg (d.i ++ d.f) (10 ^ (d.f.length - m)) wx m1 m8 (Nat.pow_pos (by omega)) HD (by rw [List.length_append]; omega) (by rw [digs_pow, List.length_cons, List.length_replicate]; omega)
      rw [digs_pow] at this
      exact this
    have hNs : (dStr (List.replicate (d.f.length - m) 0)).size ≤ 1000 := by rw [dStr_size, List.length_replicate]; omega
  · rw [if_pos h8] at HM hT
    refine ⟨fun w => ?_, fun w => ?_⟩
    · have HM2 := fun wx => tp_mult d.neg _ _ mode m _ _ _ _ _ _ _ wx HPW HM (by omega) (by omega) (by omega)
      exact HM2 w
    · exact rp_err d.neg _ _ mode m _ _ w HA hN hT (by omega) (by omega) (by omega) (by omega) hNs
  · rw [if_neg h8] at HM hT
    have hro : roD mode d t = mkN d.neg (roQ mode d.neg d.num (10 ^ (d.f.length - m))) m := by
      unfold roD
      rw [hmax, hX, hU, t3, t4, Nat.mul_one]
    rw [hro] at HM
    generalize hQ : roQ mode d.neg d.num (10 ^ (d.f.length - m)) = Q at *
    obtain ⟨P, hP⟩ : ∃ P, P = padTo (m + 1) (digs Q) := ⟨_, rfl⟩
    have hQl : (digs Q).length ≤ 40 := by
      refine (digs_le Q 40 (by omega)).2 ?_
      have hn : d.num < 10 ^ (d.i.length + d.f.length) := by
        have := dVal_lt HD
        rw [List.length_append] at this
        exact this
      have hq : d.num / 10 ^ (d.f.length - m) < 10 ^ (d.i.length + m) := by
        refine Nat.div_lt_of_lt_mul ?_
        rw [← Nat.pow_add]
        rw [show d.f.length - m + (d.i.length + m) = d.i.length + d.f.length by omega]
        exact hn
      have hQ2 : Q ≤ d.num / 10 ^ (d.f.length - m) + 1 := by
        rw [← hQ]
        unfold roQ
        split <;> omega
      have h10 : 10 ^ (d.i.length + m) < 10 ^ (d.i.length + m + 1) := Nat.pow_lt_pow_right (by omega) (by omega)
      have h40 : 10 ^ (d.i.length + m + 1) ≤ 10 ^ 40 := Nat.pow_le_pow_right (by omega) (by omega)
      omega
    have hPl : ¬ 40 < P.length := by rw [hP, padTo_len]; omega
    have hms := made_some (neg := d.neg) hP hPl
    refine ⟨_, hms, fun w => ?_, fun w => ?_⟩
    · rw [hms] at HM
      have HM2 := fun wx => tp_mult d.neg _ _ mode m _ _ _ _ _ _ _ wx HPW HM (by omega) (by omega) (by omega)
      exact HM2 w
    · have HMd : ∀ wx : World, Calls Try.prog 74 #[.bool d.neg, .string (dStr (digs Q)), .int .i64 (m : Int)] wx fun r w' => r = .returned (.agg #[.bool (d.neg && decide (Q ≠ 0)), .string (dStr (digs (dVal (P.take (P.length - m))))), .string (dStr (P.drop (P.length - m)))]) ∧ Below wx.heap.size wx w' := by
        intro wx
        cases hn : d.neg with
        | true => have := rmade_true (digs Q) m P wx hP (digs_digs Q) (by omega) (by omega); rw [dVal_digs] at this; exact this
        | false => have := rmade_false (digs Q) m P wx hP (digs_digs Q) (by omega) (by omega); rw [dVal_digs] at this; exact this
      exact rp_ok d.neg _ _ mode m _ _ _ _ _ w HA hN hT HMd (by omega) (by omega) (by omega) (by omega) hNs


theorem mode_of3 {ok : Bool} {mode : Int} (h : modeE ok mode = 0) : ok = true ∧ 1 ≤ mode ∧ mode ≤ 8 := by
  cases ok with
  | false => exact absurd h (by unfold modeE; rw [if_neg Bool.false_ne_true]; decide)
  | true =>
    have hmB : modeB mode = true := by
      cases e : modeB mode with
      | true => rfl
      | false => unfold modeE at h; rw [e] at h; exact absurd h (by decide)
    unfold modeB at hmB
    simp only [Bool.and_eq_true, decide_eq_true_eq] at hmB
    exact ⟨rfl, hmB⟩
theorem bound_cut {x : Dc} (hx : x.Ok) (p : Nat) :
    boundV x.neg (dStr x.i) (dStr (x.f.take (cutTo x.f p x.f.length) ++ List.replicate (p - cutTo x.f p x.f.length) 0)) = RES (padD (cutZ x p) p) := by
  have hc := cutTo_le x.f p x.f.length
  have hl : (cutZ x p).f.length = cutTo x.f p x.f.length := by show (x.f.take _).length = _; rw [List.length_take]; omega
  obtain ⟨M, hM⟩ : ∃ M, M = max (cutZ x p).f.length p := ⟨_, rfl⟩
  rw [pad_form (cut_ok hx p) p M hM]
  have hMz : (x.f.take (cutTo x.f p x.f.length) ++ List.replicate (p - cutTo x.f p x.f.length) 0).length = M := by
    rw [List.length_append, List.length_replicate, List.length_take]
    omega
  have hj : M - (cutZ x p).f.length = p - cutTo x.f p x.f.length := by omega
  unfold boundV
  rw [dStr_size, dStr_size, hMz, hj]
  show (if 40 < x.i.length + M then _ else _) = RES (if 40 < x.i.length + M then none else _)
  by_cases h : 40 < x.i.length + M
  · rw [if_pos h, if_pos h]; rfl
  · rw [if_neg h, if_neg h]; rfl
/-- What Fix tells of an answer of Places. -/
theorem fix_ok (d x : Dc) (mode : Int) (p m : Nat) (hd : d.Ok) (hx : x.Ok) (m1 : 1 ≤ mode) (m8 : mode ≤ 8) (hpm : p ≤ m) (hm : m ≤ 40) (h1 : TpP mode m d.neg (dStr d.i) (dStr d.f) (RES (some x))) (h2 : PlR mode m d.neg (dStr d.i) (dStr d.f) (RES (some x))) :
    FxP mode p m d.neg (dStr d.i) (dStr d.f) (RES (padD (cutZ x p) p)) ∧ FxR mode p m d.neg (dStr d.i) (dStr d.f) (RES (padD (cutZ x p) p)) := by
  have dm := hd.most
  have xm := hx.most
  have hmB : modeB mode = true := by unfold modeB; rw [decide_eq_true m1, decide_eq_true m8]; rfl
  have hE : modeE (okB d.neg (dStr d.i) (dStr d.f)) mode = 0 := by unfold modeE; rw [ok_of hd, hmB]; rfl
  have hb1 : (dStr d.i).size ≤ 140737488355328 := by rw [dStr_size]; omega
  have hb2 : (dStr d.f).size ≤ 140737488355328 := by rw [dStr_size]; omega
  have HC := fun wx => checkRange_any d.neg (dStr d.i) (dStr d.f) mode 0 p m wx hb1 hb2
  have hR : rangeE (okB d.neg (dStr d.i) (dStr d.f)) mode 0 p m = 0 := by unfold rangeE; rw [if_pos hE, if_neg (by omega)]
  rw [hR] at HC
  have HA := fun wx => asked_any d.neg (dStr d.i) (dStr d.f) mode wx hb1 hb2
  rw [hE] at HA
  refine ⟨fun w => ?_, fun w => ?_⟩
  · exact fx_ok d.neg _ _ mode p m _ _ _ _ _ _ _ w HC h1 (fun wx => wz_pos x p wx _ rfl hx (by omega))
  · refine rf_ok d.neg _ _ mode m p x _ _ _ _ w HA h2 (fun wx F hF => ?_) (by omega) (by omega) (by omega) hx.most hx.df
    rw [hF]
    have hc := cutTo_le x.f p x.f.length
    have := rbound_any x.neg (dStr x.i) (dStr (x.f.take (cutTo x.f p x.f.length) ++ List.replicate (p - cutTo x.f p x.f.length) 0)) wx (by rw [dStr_size, dStr_size, List.length_append, List.length_take, List.length_replicate]; omega)
    rw [bound_cut hx p] at this
    exact this

/-- Both sides tell the same of any decimal, mode and numbers of places. -/
theorem fix_pair (n : Bool) (i f : ByteArray) (mode least most : Int) (hi : i.size ≤ 140737488355328) (hf : f.size ≤ 140737488355328) :
    ∃ (yn : Bool) (yi yf : ByteArray) (c : Int), FxP mode least most n i f (.tuple #[.agg #[.bool yn, .string yi, .string yf], .int .i64 c]) ∧ FxR mode least most n i f (.tuple #[.agg #[.bool yn, .string yi, .string yf], .int .i64 c]) := by
  have HC := fun wx => checkRange_any n i f mode 0 least most wx hi hf
  have HA := fun wx => asked_any n i f mode wx hi hf
  by_cases hE : modeE (okB n i f) mode = 0
  case neg =>
    rw [show rangeE (okB n i f) mode 0 least most = modeE (okB n i f) mode by unfold rangeE; rw [if_neg hE]] at HC
    exact ⟨_, _, _, _, fun w => fx_bad n i f mode least most _ w HC (bne_iff_ne.2 hE), fun w => rf_bad n i f mode least most _ w HA (bne_iff_ne.2 hE)⟩
  rw [hE] at HA
  by_cases hb : least < 0 ∨ most < least ∨ 40 < most
  · rw [show rangeE (okB n i f) mode 0 least most = 1 by unfold rangeE; rw [if_pos hE, if_pos (by omega)]] at HC
    refine ⟨_, _, _, _, fun w => fx_bad n i f mode least most 1 w HC (by decide), fun w => ?_⟩
    by_cases h0 : least < 0
    · exact rf_arg0 n i f mode least most w HA h0
    by_cases h1 : 40 < least
    · exact rf_arg1 n i f mode least most w HA h0 h1
    by_cases h2 : most < least
    · exact rf_arg2 n i f mode least most w HA h0 h1 h2
    exact rf_arg3 n i f mode least most w HA h0 h1 h2 (by omega)
  obtain ⟨p, rfl⟩ : ∃ p : Nat, least = p := ⟨least.toNat, by omega⟩
  obtain ⟨m, rfl⟩ : ∃ m : Nat, most = m := ⟨most.toNat, by omega⟩
  obtain ⟨hk, m1, m8⟩ := mode_of3 hE
  rw [show rangeE (okB n i f) mode 0 p m = 0 by unfold rangeE; rw [if_pos hE, if_neg (by omega)]] at HC
  obtain ⟨d, hd, rfl, rfl, rfl⟩ := ok_cases hk
  obtain ⟨p1, p2, p3⟩ := tplaces_ok d mode m hd m1 m8 (by omega)
  by_cases hle : d.f.length ≤ m
  · obtain ⟨h1, h2⟩ := p1 hle
    exact ⟨_, _, _, _, fix_ok d d mode p m hd hd m1 m8 (by omega) (by omega) h1 h2⟩
  by_cases h8 : mode = 8 ∧ d.num % 10 ^ (d.f.length - m) ≠ 0
  · obtain ⟨h1, h2⟩ := p2 hle h8
    exact ⟨_, _, _, _, fun w => fx_err d.neg _ _ mode p m _ _ _ 31 w HC h1 (by decide), fun w => rf_err d.neg _ _ mode p m _ _ _ 31 w HA h2 (by omega) (by omega) (by omega) (by omega) (by decide)⟩
  · obtain ⟨x, hx, h1, h2⟩ := p3 hle h8
    exact ⟨_, _, _, _, fix_ok d x mode p m hd (mk_some hx).2.2.1 m1 m8 (by omega) (by omega) h1 h2⟩
end Go.Proofs.Ytmaljkjcibdbgaa
