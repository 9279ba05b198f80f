/- Step of both sides tells the same. -/
import Derived.Test.YtmaljkjcibdbgaaRStep
import Derived.Test.YtmaljkjcibdbgaaRoPair
namespace Go.Proofs.Ytmaljkjcibdbgaa
open Go.RowKit

def StP (mode : Int) (an : Bool) (ai af : ByteArray) (bn : Bool) (bi bf : ByteArray) (v : Value) : Prop := ∀ w : World, Calls Try.prog 39 #[.agg #[.bool an, .string ai, .string af], .int .i64 mode, .agg #[.bool bn, .string bi, .string bf]] w fun e w' => e = .returned v ∧ Below w.heap.size w w'
def StR (mode : Int) (an : Bool) (ai af : ByteArray) (bn : Bool) (bi bf : ByteArray) (v : Value) : Prop := ∀ w : World, Calls Try.prog 40 #[.agg #[.bool an, .string ai, .string af], .int .i64 mode, .agg #[.bool bn, .string bi, .string bf]] w fun e w' => e = .returned v ∧ Below w.heap.size w w'
theorem mode_of {ok : Bool} {mode : Int} (h : modeE ok mode = 0) : ok = true ∧ 1 ≤ mode ∧ mode ≤ 8 := by
  cases ok with
  | false => exact absurd h (by unfold modeE; rw [if_neg Bool.false_ne_true]; decide)
  | true =>
    have hmB : modeB mode = true := by
      cases e : modeB mode with
      | true => rfl
      | false => unfold modeE at h; rw [e] at h; exact absurd h (by decide)
    unfold modeB at hmB
    simp only [Bool.and_eq_true, decide_eq_true_eq] at hmB
    exact ⟨rfl, hmB⟩
theorem sign_le {u : Dc} (h : u.neg = true ∨ u.num = 0) : u.z.sign ≤ 0 := by
  have : u.z ≤ 0 := by
    unfold Dc.z
    rcases h with h | h
    · rw [h, if_pos rfl]; omega
    · rw [h]; split <;> simp
  rcases Int.lt_or_eq_of_le this with h | h
  · rw [Int.sign_eq_neg_one_of_neg h]; decide
  · rw [h]; decide
theorem sign_gt {u : Dc} (h : u.neg = false) (h0 : u.num ≠ 0) : ¬ u.z.sign ≤ 0 := by
  have : 0 < u.z := by unfold Dc.z; rw [h, if_neg Bool.false_ne_true]; omega
  rw [Int.sign_eq_one_of_pos this]
  decide
/-- What is made of too many digits is bounded away. -/
theorem made_none {neg : Bool} {Q p : Nat} {P : List Nat} (hP : P = padTo (p + 1) (digs Q)) (hp : p < 40) (h : 40 < P.length) :
    mkN neg Q p = none ∧ 40 < (dStr (digs (dVal (P.take (P.length - p))))).size + (dStr (P.drop (P.length - p))).size := by
  refine ⟨by rw [mkN_digs, ← hP, if_pos h], ?_⟩
  have hl : P.length = max (p + 1) (digs Q).length := by rw [hP, padTo_len]
  have hPe : P = digs Q := by
    rw [hP]
    unfold padTo
    rw [show p + 1 - (digs Q).length = 0 by omega]
    rfl
  have hd : digs (dVal (P.take (P.length - p))) = P.take (P.length - p) := by
    refine led ((hPe ▸ digs_digs Q).take _) ?_
    right
    cases hc : digs Q with
    | nil => rw [hPe, hc] at h; simp at h
    | cons a t =>
      refine ⟨a, ?_, digs_head (n := Q) (by rw [hc]; rfl) (by omega)⟩
      rw [hPe, hc]
      rw [show (a :: t).length - p = (((a :: t).length - p) - 1) + 1 by rw [← hc]; omega]
      rfl
  rw [hd, dStr_size, dStr_size, List.length_take, List.length_drop]
  omega
theorem bound_made {neg : Bool} {Q p : Nat} {P : List Nat} (hP : P = padTo (p + 1) (digs Q)) (hp : p < 40) :
    boundV (neg && decide (Q ≠ 0)) (dStr (digs (dVal (P.take (P.length - p))))) (dStr (P.drop (P.length - p))) = RES (mkN neg Q p) := by
  unfold boundV
  by_cases h : 40 < P.length
  · obtain ⟨e, h2⟩ := made_none (neg := neg) hP hp h
    rw [if_pos h2, e]
    rfl
  · have e := made_some (neg := neg) hP h
    have ho := (mk_some e).2.2.1.most
    rw [e, if_neg (by rw [dStr_size, dStr_size]; exact Nat.not_lt.2 ho)]
    rfl
theorem roQ_le (mode : Int) (neg : Bool) (x u : Nat) : roQ mode neg x u ≤ x + 1 := by
  have := Nat.div_le_self x u
  unfold roQ
  split <;> omega
theorem raised_80 {d : Dc} (hd : d.Ok) {s : Nat} (hs : s ≤ 40) : d.raised s < 10 ^ 80 := by
  unfold Dc.raised
  have h1 := num_lt hd
  have h2 : (10 : Nat) ^ (s - d.f.length) ≤ 10 ^ 40 := Nat.pow_le_pow_right (by omega) (by omega)
  calc d.num * 10 ^ (s - d.f.length) ≤ d.num * 10 ^ 40 := Nat.mul_le_mul_left _ h2
    _ < 10 ^ 40 * 10 ^ 40 := Nat.mul_lt_mul_of_pos_right h1 (by omega)
    _ = 10 ^ 80 := by rw [← Nat.pow_add]

/-- Both sides tell the same of any two decimals and mode. -/
theorem step_pair (an bn : Bool) (ai af bi bf : ByteArray) (mode : Int) (hai : ai.size ≤ 140737488355328) (haf : af.size ≤ 140737488355328) (hbi : bi.size ≤ 140737488355328) (hbf : bf.size ≤ 140737488355328) :
    ∃ (yn : Bool) (yi yf : ByteArray) (c : Int), StP mode an ai af bn bi bf (.tuple #[.agg #[.bool yn, .string yi, .string yf], .int .i64 c]) ∧ StR mode an ai af bn bi bf (.tuple #[.agg #[.bool yn, .string yi, .string yf], .int .i64 c]) := by
  have P1 := fun wx => checkMode_any an ai af mode wx hai haf
  have R1 := fun wx => asked_any an ai af mode wx hai haf
  by_cases hE : modeE (okB an ai af) mode = 0
  case neg => exact ⟨_, _, _, _, fun w => ps_bad1 an bn ai af bi bf mode _ w P1 (bne_iff_ne.2 hE), fun w => rs_bad1 an bn ai af bi bf mode _ w R1 (bne_iff_ne.2 hE)⟩
  rw [hE] at P1 R1
  have P2 := fun wx => check_any bn bi bf wx hbi hbf
  have R2 := fun wx => refCheck_any bn bi bf wx hbi hbf
  cases hk : okB bn bi bf with
  | false =>
    rw [ck_bad hk] at P2 R2
    exact ⟨_, _, _, _, fun w => ps_bad2 an bn ai af bi bf mode 20 w P1 P2 (by decide), fun w => rs_bad2 an bn ai af bi bf mode 20 w R1 R2 (by decide)⟩
  | true =>
    obtain ⟨hka, m1, m8⟩ := mode_of hE
    obtain ⟨d, hd, rfl, rfl, rfl⟩ := ok_cases hka
    obtain ⟨u, hu, rfl, rfl, rfl⟩ := ok_cases hk
    rw [ck_ok hu] at P2 R2
    have P3 := fun wx => sign_ok u wx hu
    have sdi : (dStr d.i).size = d.i.length := dStr_size _
    have sdf : (dStr d.f).size = d.f.length := dStr_size _
    have sui : (dStr u.i).size = u.i.length := dStr_size _
    have suf : (dStr u.f).size = u.f.length := dStr_size _
    have dm := hd.most
    have um := hu.most
    have z4 : (dStr d.i).size + (dStr d.f).size ≤ 1000 := by omega
    have z5 : (dStr u.i).size + (dStr u.f).size ≤ 1000 := by omega
    have HD : Digs (d.i ++ d.f) := hd.di.append hd.df
    have HU : Digs (u.i ++ u.f) := hu.di.append hu.df
    have R3 : ∀ (wx : World) {X : ByteArray}, X = dStr u.i ++ dStr u.f → Calls Try.prog 81 #[.string X] wx fun r w' => r = .returned (.string (dStr (digs u.num))) ∧ Below wx.heap.size wx w' := by
      intro wx X hX
      rw [hX, dStr_append]
      refine (rlead_any (u.i ++ u.f) wx HU (by rw [List.length_append]; omega)).mono ?_
      rintro r w' ⟨h1, rfl⟩
      exact ⟨h1, Below.refl _ _⟩
    by_cases hneg : u.neg = true
    · rw [hneg] at P2 R2 P3 ⊢
      exact ⟨_, _, _, _, fun w => ps_arg d.neg true _ _ _ _ mode _ w P1 P2 P3 (sign_le (.inl hneg)), fun w => rs_neg d.neg _ _ _ _ mode _ w R1 R2 R3 z5 z4⟩
    have hnf : u.neg = false := by cases h : u.neg with | true => exact absurd h hneg | false => rfl
    by_cases h0 : u.num = 0
    · rw [hnf] at P2 R2 P3 ⊢
      exact ⟨_, _, _, _, fun w => ps_arg d.neg false _ _ _ _ mode _ w P1 P2 P3 (sign_le (.inr h0)), fun w => rs_zero d.neg _ _ _ _ mode _ w R1 R2 R3 z5 z4 (by rw [zero_text, decide_eq_true h0])⟩
    have hz : ((dStr (digs u.num)).toList == [48]) = false := by rw [zero_text, decide_eq_false h0]
    have HM := fun wx => multiple_both mode d u wx m1 m8 hd hu hnf h0
    unfold decV at HM
    have sg := sign_gt hnf h0
    have fd := f_lt hd
    have fu := f_lt hu
    obtain ⟨s, hs⟩ : ∃ s, s = max d.f.length u.f.length := ⟨_, rfl⟩
    have s40 : s ≤ 40 := by omega
    have hro : roD mode d u = mkN d.neg (roQ mode d.neg (d.raised s) (u.raised s) * u.num) u.f.length := by unfold roD; rw [← hs]
    rw [← hs, hro] at HM
    have U0 : 0 < u.raised s := Nat.mul_pos (by omega) (Nat.pow_pos (by omega))
    have dl := raised_80 hd s40
    have ul := raised_80 hu s40
    have HT : ∀ wx : World, Calls Try.prog 72 #[.int .i64 mode, .bool d.neg, .string (dStr (d.i ++ d.f ++ List.replicate (s - d.f.length) 0)), .string (dStr (digs (u.raised s)))] wx fun r w' => r = .returned (if mode = 8 ∧ d.raised s % u.raised s ≠ 0 then .tuple #[.string (dStr (digs (d.raised s / u.raised s))), .int .i64 31] else .tuple #[.string (dStr (digs (roQ mode d.neg (d.raised s) (u.raised s)))), .int .i64 0]) ∧ Below wx.heap.size wx w' := by
      intro wx
      have := rturned_both mode d.neg (d.i ++ d.f ++ List.replicate (s - d.f.length) 0) (u.raised s) wx m1 m8 U0 (HD.append (Digs.zeros _)) (by rw [List.length_append, List.length_append, List.length_replicate]; omega) (by have := (digs_le (u.raised s) 80 (by omega)).2 ul; omega)
      rw [raised_digs] at this
      exact this
    have HLd : ∀ wx : World, Calls Try.prog 81 #[.string (dStr (u.i ++ u.f ++ List.replicate (s - u.f.length) 0))] wx fun r w' => r = .returned (.string (dStr (digs (u.raised s)))) ∧ Below wx.heap.size wx w' := by
      intro wx
      have := rlead_any (u.i ++ u.f ++ List.replicate (s - u.f.length) 0) wx (HU.append (Digs.zeros _)) (by rw [List.length_append, List.length_append, List.length_replicate]; omega)
      rw [raised_digs] at this
      refine this.mono ?_
      rintro r w' ⟨h1, rfl⟩
      exact ⟨h1, Below.refl _ _⟩
    -- what of the two is laid longer
    have HTl : d.f.length < u.f.length → ∀ (wx : World) {X : ByteArray}, X = dStr d.i ++ dStr d.f ++ dStr (List.replicate (s - d.f.length) 0) → _ := fun _ wx X hX => by
      have := HT wx
      rw [← dStr_append, ← dStr_append, ← hX] at this
      exact this
    have HLl : d.f.length < u.f.length → ∀ (wx : World) {X : ByteArray}, X = dStr u.i ++ dStr u.f → _ := fun hl wx X hX => by
      have := HLd wx
      rw [show s - u.f.length = 0 by omega, List.replicate_zero, List.append_nil, ← dStr_append, ← hX] at this
      exact this
    have HTg : ¬ d.f.length < u.f.length → ∀ (wx : World) {X : ByteArray}, X = dStr d.i ++ dStr d.f → _ := fun hl wx X hX => by
      have := HT wx
      rw [show s - d.f.length = 0 by omega, List.replicate_zero, List.append_nil, ← dStr_append, ← hX] at this
      exact this
    have HLg : ¬ d.f.length < u.f.length → ∀ (wx : World) {X : ByteArray}, X = dStr u.i ++ dStr u.f ++ dStr (List.replicate (s - u.f.length) 0) → _ := fun _ wx X hX => by
      have := HLd wx
      rw [← dStr_append, ← dStr_append, ← hX] at this
      exact this
    have hNl : d.f.length < u.f.length → ∀ (wx : World) {nI : Int}, nI = ((dStr u.f).size : Int) - ((dStr d.f).size : Int) → _ := fun hl wx nI h => rnoughts_any (s - d.f.length) nI wx (by omega) (by omega)
    have hNg : ¬ d.f.length < u.f.length → ∀ (wx : World) {nI : Int}, nI = ((dStr d.f).size : Int) - ((dStr u.f).size : Int) → _ := fun hl wx nI h => rnoughts_any (s - u.f.length) nI wx (by omega) (by omega)
    have zN1 : (dStr (List.replicate (s - d.f.length) 0)).size ≤ 1000 := by rw [dStr_size, List.length_replicate]; omega
    have zN2 : (dStr (List.replicate (s - u.f.length) 0)).size ≤ 1000 := by rw [dStr_size, List.length_replicate]; omega
    rw [hnf] at P2 R2 P3 HM ⊢
    by_cases h8 : mode = 8 ∧ d.raised s % u.raised s ≠ 0
    · rw [if_pos h8] at HM
      refine ⟨_, _, _, _, fun w => ps_ok d.neg false _ _ _ _ mode _ _ _ _ _ w P1 P2 P3 HM sg, fun w => ?_⟩
      by_cases hl : d.f.length < u.f.length
      · have HT2 := HTl hl
        simp only [if_pos h8] at HT2
        exact rs_err_l d.neg _ _ _ _ mode _ _ _ _ w R1 R2 R3 (hNl hl) (HLl hl) HT2 z5 z4 zN1 hz (by omega)
      · have HT2 := HTg hl
        simp only [if_pos h8] at HT2
        exact rs_err_g d.neg _ _ _ _ mode _ _ _ _ w R1 R2 R3 (hNg hl) (HLg hl) HT2 z5 z4 zN2 hz (by omega)
    · rw [if_neg h8] at HM
      have hQl := roQ_le mode d.neg (d.raised s) (u.raised s)
      generalize hQ : roQ mode d.neg (d.raised s) (u.raised s) = Q at *
      have lQ : (digs Q).length ≤ 81 := (digs_le Q 81 (by omega)).2 (by omega)
      have lu : (digs u.num).length ≤ 40 := (digs_le u.num 40 (by omega)).2 (num_lt hu)
      have H7 := fun wx => rmul_any Q u.num wx (by omega) (by omega)
      have lM : (digs (Q * u.num)).length ≤ 200 := by
        refine (digs_le _ 200 (by omega)).2 ?_
        have h1 : Q < 10 ^ 81 := by omega
        have h2 : Q * u.num < 10 ^ 81 * 10 ^ 40 := Nat.mul_lt_mul'' h1 (num_lt hu)
        have h3 : (10 : Nat) ^ 81 * 10 ^ 40 ≤ 10 ^ 200 := by decide
        omega
      obtain ⟨P, hP⟩ : ∃ P, P = padTo (u.f.length + 1) (digs (Q * u.num)) := ⟨_, rfl⟩
      have hB := bound_made (neg := d.neg) hP fu
      have hPl : P.length = max (u.f.length + 1) (digs (Q * u.num)).length := by rw [hP, padTo_len]
      have H8 : ∀ wx : World, Calls Try.prog 74 #[.bool d.neg, .string (dStr (digs (Q * u.num))), .int .i64 ((dStr u.f).size : Int)] wx fun r w' => r = .returned (.agg #[.bool (d.neg && decide (Q * u.num ≠ 0)), .string (dStr (digs (dVal (P.take (P.length - u.f.length))))), .string (dStr (P.drop (P.length - u.f.length)))]) ∧ Below wx.heap.size wx w' := by
        intro wx
        rw [suf]
        cases hn : d.neg with
        | true => have := rmade_true (digs (Q * u.num)) u.f.length P wx hP (digs_digs _) (by omega) (by omega); rw [dVal_digs] at this; exact this
        | false => have := rmade_false (digs (Q * u.num)) u.f.length P wx hP (digs_digs _) (by omega) (by omega); rw [dVal_digs] at this; exact this
      have hdl : (digs (dVal (P.take (P.length - u.f.length)))).length ≤ 200 := by
        refine (digs_le _ 200 (by omega)).2 ?_
        have h1 := dVal_lt ((show Digs P by rw [hP]; exact padTo_digs (digs_digs _)).take (P.length - u.f.length))
        have h2 : (10 : Nat) ^ (P.take (P.length - u.f.length)).length ≤ 10 ^ 200 := Nat.pow_le_pow_right (by omega) (by rw [List.length_take]; omega)
        exact Nat.lt_of_lt_of_le h1 h2
      have H9 := fun wx => rbound_any (d.neg && decide (Q * u.num ≠ 0)) (dStr (digs (dVal (P.take (P.length - u.f.length))))) (dStr (P.drop (P.length - u.f.length))) wx (by rw [dStr_size, dStr_size, List.length_drop]; omega)
      rw [hB] at H9
      refine ⟨_, _, _, _, fun w => ps_ok d.neg false _ _ _ _ mode _ _ _ _ _ w P1 P2 P3 HM sg, fun w => ?_⟩
      by_cases hl : d.f.length < u.f.length
      · have HT2 := HTl hl
        simp only [if_neg h8] at HT2
        exact rs_ok_l d.neg _ _ _ _ mode _ _ _ _ _ _ _ _ _ _ _ _ w R1 R2 R3 (hNl hl) (HLl hl) HT2 H7 H8 H9 z5 z4 zN1 hz (by omega)
      · have HT2 := HTg hl
        simp only [if_neg h8] at HT2
        exact rs_ok_g d.neg _ _ _ _ mode _ _ _ _ _ _ _ _ _ _ _ _ w R1 R2 R3 (hNg hl) (HLg hl) HT2 H7 H8 H9 z5 z4 zN2 hz (by omega)
end Go.Proofs.Ytmaljkjcibdbgaa
