/- RoundNear, put together. -/
import Derived.Test.YtmaljkjcibdbgaaLawRNear
import Derived.Test.YtmaljkjcibdbgaaRnRef
namespace Go.Proofs.Ytmaljkjcibdbgaa
open Go.RowKit

/-- What is rounded lies less than a unit away; at most half a one in the half modes. -/
theorem near_num (mode : Int) (neg : Bool) (X U : Nat) (hU : 0 < U) (h8 : ¬ (mode = 8 ∧ X % U ≠ 0)) :
    ∃ D : Nat, D < U ∧ (roQ mode neg X U * U = X + D ∨ roQ mode neg X U * U + D = X) ∧ (5 ≤ mode → mode ≤ 7 → 2 * D ≤ U) := by
  have e := Nat.div_add_mod X U
  have hm := Nat.mod_lt X hU
  unfold roQ
  rw [Nat.mul_comm] at e
  generalize X / U = q at *
  generalize X % U = r at *
  by_cases hr : r = 0
  · subst hr
    exact ⟨0, hU, .inl (by simp; omega), fun _ _ => by omega⟩
  · rw [decide_eq_true hr, Bool.true_and]
    have hm8 : mode ≠ 8 := fun e => h8 ⟨e, hr⟩
    have hc : ∀ c, cmpN (2 * r) U = c → (0 < c → U < 2 * r) ∧ (c = 0 → 2 * r = U) ∧ (c < 0 → 2 * r < U) := by
      intro c h
      unfold cmpN at h
      refine ⟨fun h1 => ?_, fun h1 => ?_, fun h1 => ?_⟩ <;> (split at h; omega; split at h <;> omega)
    obtain ⟨c1, c2, c3⟩ := hc _ rfl
    generalize cmpN (2 * r) U = c at *
    cases hup : upB mode neg (decide (q % 2 = 1)) c with
    | true =>
      refine ⟨U - r, by omega, .inl ?_, fun h5 h7 => ?_⟩
      · simp only [if_true]
        rw [Nat.add_mul, Nat.one_mul]
        omega
      · unfold upB at hup
        have n1 : decide (mode = 1) = false := decide_eq_false (by omega)
        have n3 : decide (mode = 3) = false := decide_eq_false (by omega)
        have n4 : decide (mode = 4) = false := decide_eq_false (by omega)
        rw [n1, n3, n4, decide_eq_true h5] at hup
        simp only [Bool.false_and, Bool.false_or, Bool.true_and, Bool.or_eq_true, Bool.and_eq_true, decide_eq_true_eq] at hup
        rcases hup with h | ⟨h, -⟩
        · have := c1 h; omega
        · have := c2 h; omega
    | false =>
      refine ⟨r, hm, .inr ?_, fun h5 h7 => ?_⟩
      · simp only [Bool.false_eq_true, if_false, Nat.add_zero]
        omega
      · unfold upB at hup
        have n1 : decide (mode = 1) = false := decide_eq_false (by omega)
        have n3 : decide (mode = 3) = false := decide_eq_false (by omega)
        have n4 : decide (mode = 4) = false := decide_eq_false (by omega)
        rw [n1, n3, n4, decide_eq_true h5] at hup
        simp only [Bool.false_and, Bool.false_or, Bool.true_and, Bool.or_eq_false_iff, decide_eq_false_iff_not] at hup
        rcases Int.lt_or_le c 0 with h | h
        · have := c3 h; omega
        · have := c2 (by omega); omega

theorem places_cases (n : Bool) (i f : ByteArray) (mode most : Int) (hi : i.size ≤ 140737488355328) (hf : f.size ≤ 140737488355328) :
    (∃ c : Int, c ≠ 0 ∧ PlP mode most n i f (zeroV c) ∧ PlR mode most n i f (zeroV c)) ∨
    ∃ (d : Dc) (m : Nat), d.Ok ∧ m ≤ 40 ∧ 1 ≤ mode ∧ mode ≤ 8 ∧ most = (m : Int) ∧ n = d.neg ∧ i = dStr d.i ∧ f = dStr d.f := by
  have HC := fun wx => checkRange_any n i f mode 0 0 most wx hi hf
  have HA := fun wx => asked_any n i f mode wx hi hf
  by_cases hE : modeE (okB n i f) mode = 0
  · rw [hE] at HA
    by_cases h1 : most < 0
    · rw [show rangeE (okB n i f) mode 0 0 most = 1 by unfold rangeE; rw [if_pos hE, if_pos (by omega)]] at HC
      exact .inl ⟨1, by decide, fun w => pl_bad n i f mode most 1 w HC (by decide), fun w => rp_lo n i f mode most w HA h1⟩
    by_cases h2 : 40 < most
    · rw [show rangeE (okB n i f) mode 0 0 most = 1 by unfold rangeE; rw [if_pos hE, if_pos (by omega)]] at HC
      exact .inl ⟨1, by decide, fun w => pl_bad n i f mode most 1 w HC (by decide), fun w => rp_hi n i f mode most w HA h1 h2⟩
    obtain ⟨m, rfl⟩ : ∃ m : Nat, most = m := ⟨most.toNat, by omega⟩
    cases hk : okB n i f with
    | false => rw [hk] at hE; exact absurd hE (by unfold modeE; rw [if_neg Bool.false_ne_true]; decide)
    | true =>
      rw [hk] at hE
      have hmB : modeB mode = true := by
        cases h : modeB mode with
        | true => rfl
        | false => unfold modeE at hE; rw [h] at hE; exact absurd hE (by decide)
      unfold modeB at hmB
      simp only [Bool.and_eq_true, decide_eq_true_eq] at hmB
      obtain ⟨d, hd, e1, e2, e3⟩ := ok_cases hk
      exact .inr ⟨d, m, hd, by omega, hmB.1, hmB.2, rfl, e1, e2, e3⟩
  · rw [show rangeE (okB n i f) mode 0 0 most = modeE (okB n i f) mode by unfold rangeE; rw [if_neg hE]] at HC
    have he : (modeE (okB n i f) mode != 0) = true := by simpa using hE
    exact .inl ⟨_, hE, fun w => pl_bad n i f mode most _ w HC he, fun w => rp_bad n i f mode most _ w HA he⟩

theorem rnear_walk (n : Bool) (i f : ByteArray) (mode most : Int) (w : World) (hi : i.size ≤ 140737488355328) (hf : f.size ≤ 140737488355328) (_h1 : -9223372036854775808 ≤ mode) (_h2 : mode ≤ 9223372036854775807) (_h3 : -9223372036854775808 ≤ most) (_h4 : most ≤ 9223372036854775807) :
    Calls Try.prog 11 #[.agg #[.bool n, .string i, .string f], .int .i64 mode, .int .i64 most] w fun e w' => e = .returned (.bool true) ∧ Below w.heap.size w w' := by
  rcases places_cases n i f mode most hi hf with ⟨c, c0, h1, h2⟩ | ⟨d, m, hd, hm, m1, m8, rfl, rfl, rfl, rfl⟩
  · exact rn_err n i f mode most _ _ _ c w h1 h2 (by simpa using c0)
  · obtain ⟨p1, p2, p3⟩ := places_ok d mode m hd m1 m8 hm
    have sz : (dStr d.f).size = d.f.length := dStr_size d.f
    by_cases hle : d.f.length ≤ m
    · exact rn_same _ _ _ mode m w (p1 hle).1 (by omega)
    by_cases h8 : mode = 8 ∧ d.num % 10 ^ (d.f.length - m) ≠ 0
    · exact rn_err _ _ _ mode m _ _ _ 31 w (p2 hle h8).1 (p2 hle h8).2 (by decide)
    · obtain ⟨x, hx, H1, -⟩ := p3 hle h8
      have hf40 := f_lt hd
      have hU0 : 0 < 10 ^ (d.f.length - m) := Nat.pow_pos (by omega)
      obtain ⟨D, D1, D2, D3⟩ := near_num mode d.neg d.num (10 ^ (d.f.length - m)) hU0 h8
      obtain ⟨u1, u2, u3, u4⟩ := unitD_ok m (by omega)
      have xOk := (mk_some hx).2.2.1
      have xf : x.f.length = m := (mk_some hx).2.1
      have xup := up_of hx d.f.length
      have dup : d.up d.f.length = if d.neg then -(d.num : Int) else (d.num : Int) := by rw [up_same]; rfl
      have hU : (unitD m).up d.f.length = ((10 ^ (d.f.length - m) : Nat) : Int) := by
        rw [up_raised, u4]
        simp only [Bool.false_eq_true, if_false]
        unfold Dc.raised
        rw [u2, u3, Nat.one_mul]
      have hUl : 10 ^ (d.f.length - m) ≤ 10 ^ 39 := Nat.pow_le_pow_right (by omega) (by omega)
      have hpw : ((10 : Int) ^ (d.f.length - m)) = ((10 ^ (d.f.length - m) : Nat) : Int) := by rw [Int.natCast_pow]; rfl
      rw [hpw] at xup
      generalize hUU : 10 ^ (d.f.length - m) = U at *
      generalize hQQ : roQ mode d.neg d.num U = Q at *
      -- the gap
      have hgz : (x.up d.f.length - d.up d.f.length).natAbs = D := by
        rw [xup, dup]
        have e : (Q : Int) * (U : Int) = ((Q * U : Nat) : Int) := by rw [Int.natCast_mul]
        generalize Q * U = z at *
        cases d.neg
        · simp only [Bool.false_eq_true, if_false]; rw [e]; omega
        · simp only [if_true]; rw [Int.neg_mul, e]; omega
      have hsub : subD x d = mk (x.up d.f.length - d.up d.f.length) d.f.length := by unfold subD; rw [show max x.f.length d.f.length = d.f.length by omega]
      cases hg : subD x d with
      | none =>
        exfalso
        rw [hsub, mk_none] at hg
        have : (10 : Nat) ^ 39 < 10 ^ 40 := by decide
        omega
      | some g =>
        have hg2 : mk (x.up d.f.length - d.up d.f.length) d.f.length = some g := by rw [← hsub]; exact hg
        have gOk := (mk_some hg2).2.2.1
        have gf : g.f.length = d.f.length := (mk_some hg2).2.1
        have gn : g.num = D := by rw [(mk_some hg2).2.2.2.1]; exact hgz
        have aup : (rAbs g).up d.f.length = (D : Int) := by
          rw [← gf, show g.f.length = (rAbs g).f.length from rfl, up_same]
          show (if (rAbs g).neg then -((rAbs g).num : Int) else ((rAbs g).num : Int)) = _
          rw [if_neg (show ¬ (rAbs g).neg = true from Bool.false_ne_true), show (rAbs g).num = g.num from rfl, gn]
        have haf : (rAbs g).f.length = d.f.length := gf
        have hs2 : sumD (rAbs g) (rAbs g) = mk ((D : Int) + (D : Int)) d.f.length := by unfold sumD; rw [Nat.max_self, haf, aup]
        cases ht : sumD (rAbs g) (rAbs g) with
        | none =>
          exfalso
          rw [hs2, mk_none] at ht
          have e1 : ((D : Int) + (D : Int)).natAbs = D + D := by omega
          have : (2 : Nat) * 10 ^ 39 < 10 ^ 40 := by decide
          omega
        | some t =>
          have ht2 : mk ((D : Int) + (D : Int)) d.f.length = some t := by rw [← hs2]; exact ht
          have tOk := (mk_some ht2).2.2.1
          have tf : t.f.length = d.f.length := (mk_some ht2).2.1
          have tup : t.up d.f.length = (D : Int) + (D : Int) := by
            have := up_of ht2 d.f.length
            rw [Nat.sub_self, Int.pow_zero, Int.mul_one] at this
            exact this
          have k1 : cmpD (rAbs g) (unitD m) < 0 := by
            rw [cmp_sign _ _ d.f.length (by omega) (by omega), aup, hU, Int.sign_eq_neg_one_of_neg (by omega)]
            decide
          have k2 : 5 ≤ mode → mode ≤ 7 → cmpD t (unitD m) ≤ 0 := fun h5 h7 => by
            have := D3 h5 h7
            exact (cmp_le_iff _ _ d.f.length (by omega) (by omega)).1.2 (by rw [tup, hU]; omega)
          have H2 := fun wx => refSub_of x.neg d.neg (dStr x.i) (dStr x.f) (dStr d.i) (dStr d.f) _ _ _ _ wx (fun wy => refSum_sub x d wy xOk hd)
          rw [hg] at H2
          have H5 := fun wx => refAdd_of false false (dStr g.i) (dStr g.f) (dStr g.i) (dStr g.f) _ _ _ _ wx (fun wy => refSum_add (rAbs g) (rAbs g) wy (rAbs_ok gOk) (rAbs_ok gOk))
          rw [ht] at H5
          refine rn_core d.neg (dStr d.i) (dStr d.f) mode m x.neg g.neg t.neg (unitD m).neg (dStr x.i) (dStr x.f) (dStr g.i) (dStr g.f) (dStr t.i) (dStr t.f) (dStr (unitD m).i) (dStr (unitD m).f) (cmpD (rAbs g) (unitD m)) (cmpD t (unitD m)) w
            H1 H2 (fun wx => worth_any g.neg _ _ wx) (fun wx => unit_any m wx (by omega)) (fun wx => refCompare_ok (rAbs g) (unitD m) wx (rAbs_ok gOk) u1) H5 (fun wx => refCompare_ok t (unitD m) wx tOk u1) (by omega) k1 ?_
          by_cases h5 : mode < 5
          · by_cases h6 : cmpD t (unitD m) ≤ 0
            · exact .inl h6
            · exact .inr (.inl ⟨h6, h5⟩)
          · by_cases h7 : 7 < mode
            · by_cases h6 : cmpD t (unitD m) ≤ 0
              · exact .inl h6
              · exact .inr (.inr ⟨h6, h5, h7⟩)
            · exact .inl (k2 (by omega) (by omega))
end Go.Proofs.Ytmaljkjcibdbgaa
