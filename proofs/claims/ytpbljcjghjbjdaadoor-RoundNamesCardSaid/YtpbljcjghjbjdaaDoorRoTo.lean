/- toMultiple, put together. -/
import Derived.Test.YtpbljcjghjbjdaaDoorRoMult
import Derived.Test.YtpbljcjghjbjdaaDoorRoOuter
import Derived.Test.YtpbljcjghjbjdaaDoorRoHalf
import Derived.Test.YtpbljcjghjbjdaaDoorRoOdd
import Derived.Test.YtpbljcjghjbjdaaDoorDTop
namespace Go.Proofs.YtpbljcjghjbjdaaDoor
open Go.RowKit

theorem absN (n : Bool) (m : Nat) : (if n then -(m : Int) else (m : Int)).natAbs = m := by
  cases n
  · rfl
  · show (-(m : Int)).natAbs = m
    rw [Int.natAbs_neg]
    rfl
/-- The multiple of the unit that is nearer to 0. -/
theorem inner_eq {d u r : Dc} {s : Nat} (hs : s = max d.f.length u.f.length) (hun : u.neg = false) (hr : remD d u = some r) :
    subD d r = mkN d.neg (d.raised s / u.raised s * u.raised s) s := by
  have hf := (mk_some hr).2.1
  have hz := (mk_some hr).1
  rw [← hs] at hf hz
  have hU : u.up s = (u.raised s : Int) := by rw [up_raised, hun]; rfl
  unfold subD
  rw [show max d.f.length r.f.length = s by omega]
  have e1 : r.up s = r.z := by rw [← hf, up_same]
  rw [e1, hz, hU]
  unfold mkN
  congr 1
  have h := Int.mul_tdiv_add_tmod (d.up s) (u.raised s : Int)
  have e2 : d.up s - (d.up s).tmod (u.raised s : Int) = (u.raised s : Int) * (d.up s).tdiv (u.raised s : Int) := by omega
  rw [e2, up_raised]
  have e3 : ((d.raised s : Int)).tdiv (u.raised s : Int) = ((d.raised s / u.raised s : Nat) : Int) := rfl
  cases hn : d.neg with
  | false => simp only [Bool.false_eq_true, if_false]; rw [e3, Int.mul_comm, ← Int.natCast_mul]
  | true => simp only [if_true]; rw [Int.neg_tdiv, e3, Int.mul_neg, Int.mul_comm, ← Int.natCast_mul]

def cutD (x : Dc) (k : Nat) : Dc := ⟨x.neg, x.i, x.f.take k⟩
/-- Noughts behind are cut off. -/
theorem cut_eq {n : Bool} {q v s k : Nat} {x : Dc} (hk : k ≤ s) (h : mkN n (q * (v * 10 ^ (s - k))) s = some x) : mkN n (q * v) k = some (cutD x k) ∧ (cutD x k).Ok := by
  obtain ⟨h1, h2, h3, h4, -⟩ := mk_some h
  have hlen : (cutD x k).f.length = k := by unfold cutD; rw [List.length_take]; omega
  have hN : x.num = q * (v * 10 ^ (s - k)) := by rw [h4]; exact absN n _
  have hsplit : (cutD x k).num * 10 ^ (s - k) + dVal (x.f.drop k) = q * v * 10 ^ (s - k) := by
    rw [Nat.mul_assoc, ← hN]
    unfold Dc.num cutD
    conv => rhs; rw [← List.take_append_drop k x.f, ← List.append_assoc, dVal_append]
    rw [List.length_drop, h2]
  have hdr : dVal (x.f.drop k) < 10 ^ (s - k) := by
    have := dVal_lt (h3.df.drop k)
    rw [List.length_drop, h2] at this
    exact this
  have hnum : (cutD x k).num = q * v := by
    have hp : 0 < 10 ^ (s - k) := Nat.pow_pos (by omega)
    have h5 : ((cutD x k).num * 10 ^ (s - k) + dVal (x.f.drop k)) / 10 ^ (s - k) = (cutD x k).num := by
      rw [Nat.add_comm, Nat.add_mul_div_right _ _ hp, Nat.div_eq_of_lt hdr, Nat.zero_add]
    rw [← h5, hsplit, Nat.mul_div_cancel _ hp]
  have hok : (cutD x k).Ok := by
    refine ⟨h3.di, h3.df.take k, h3.one, ?_, h3.lead, fun hn => ?_⟩
    · rw [hlen]
      have := h3.most
      show x.i.length + k ≤ 40
      omega
    · have := h3.sign hn
      rw [hnum]
      intro e
      rw [← Nat.mul_assoc, e, Nat.zero_mul] at hN
      exact this hN
  refine ⟨?_, hok⟩
  have hz : (cutD x k).z = if n then -((q * v : Nat) : Int) else ((q * v : Nat) : Int) := by
    have hx : x.z = if n then -((q * (v * 10 ^ (s - k)) : Nat) : Int) else ((q * (v * 10 ^ (s - k)) : Nat) : Int) := h1
    unfold Dc.z at hx ⊢
    rw [hnum]
    rw [hN] at hx
    show (if x.neg then _ else _) = _
    by_cases h0 : q * v = 0
    · rw [h0]; cases x.neg <;> cases n <;> rfl
    · have : q * (v * 10 ^ (s - k)) ≠ 0 := by rw [← Nat.mul_assoc]; exact Nat.mul_ne_zero h0 (Nat.ne_of_gt (Nat.pow_pos (by omega)))
      generalize q * (v * 10 ^ (s - k)) = N at *
      cases hx1 : x.neg <;> cases hn1 : n <;> rw [hx1, hn1] at hx <;> simp only [if_true, Bool.false_eq_true, if_false] at hx ⊢ <;> omega
  have := mk_ok hok
  rw [hlen, hz] at this
  exact this

theorem none_outer {n : Bool} {a b s : Nat} (hs : s < 40) (h : mkN n a s = none) (hab : a ≤ b) (k : Nat) : mkN n b k = none := by
  unfold mkN at h ⊢
  rw [mk_none] at h ⊢
  refine .inr ?_
  rcases h with h | h
  · omega
  · have e := absN n
    rw [e] at h ⊢
    omega

def RES (o : Option Dc) : Value := .tuple #[.agg #[.bool (oN o), .string (oI o), .string (oF o)], .int .i64 (oE o)]
def decV (d : Dc) : Value := .agg #[.bool d.neg, .string (dStr d.i), .string (dStr d.f)]

theorem multiple_both (mode : Int) (d u : Dc) (w : World) (m1 : 1 ≤ mode) (m8 : mode ≤ 8) (hd : d.Ok) (hu : u.Ok) (hun : u.neg = false) (h0 : u.num ≠ 0) :
    Calls Tryd.prog 144 #[decV d, .int .i64 mode, decV u] w fun e w' => e = .returned (if mode = 8 ∧ d.raised (max d.f.length u.f.length) % u.raised (max d.f.length u.f.length) ≠ 0 then .tuple #[.agg #[.bool false, .string ⟨#[]⟩, .string ⟨#[]⟩], .int .i64 31] else RES (roD mode d u)) ∧ Below w.heap.size w w' := by
  unfold decV
  rw [hun]
  obtain ⟨s, hs⟩ : ∃ s, s = max d.f.length u.f.length := ⟨_, rfl⟩
  obtain ⟨r, hr⟩ := rem_room hd hu (fun e => h0 ((znum u).1 e))
  have hrok := (mk_some hr).2.2.1
  have hrf : r.f.length = s := by rw [(mk_some hr).2.1, hs]
  have hrn : r.num = d.raised s % u.raised s := by
    have h := rem_ref d u hs
    rw [hr] at h
    rw [(mk_some h).2.2.2.1]
    exact absN d.neg _
  have U0 : 0 < u.raised s := Nat.mul_pos (by omega) (Nat.pow_pos (by omega))
  have hin := inner_eq hs hun hr
  have H1 := fun wx => rem_ok d u wx (some r) hr hd hu h0
  rw [hun] at H1
  have H2 := fun wx => sign_ok r wx hrok
  have hsg : r.z.sign = 0 ↔ d.raised s % u.raised s = 0 := by rw [sign_zero, hrn]
  have H3 := fun wx => sub_ok d r wx _ rfl hd hrok
  rw [← hs]
  have hro : roD mode d u = mkN d.neg (roQ mode d.neg (d.raised s) (u.raised s) * u.num) u.f.length := by unfold roD; rw [← hs]
  rw [hro]
  have s40 : s < 40 := by have := f_lt hd; have := f_lt hu; omega
  have hUr : u.raised s = u.num * 10 ^ (s - u.f.length) := rfl
  by_cases hin8 : mode = 8 ∧ d.raised s % u.raised s ≠ 0
  · rw [if_pos hin8]
    exact tm_none d.neg r.neg _ _ _ _ _ _ mode _ w H1 H2 (beq_iff_eq.2 hin8.1) (beq_eq_false_iff_ne.2 fun e => hin8.2 (hsg.1 e))
  · rw [if_neg hin8]
    -- the inner multiple is too long
    cases hx : subD d r with
    | none =>
      rw [hx] at H3
      rw [hx] at hin
      have hle : ∀ k, mkN d.neg (roQ mode d.neg (d.raised s) (u.raised s) * u.num) k = none := by
        intro k
        refine none_outer s40 hin.symm ?_ k
        have hsf : s = u.f.length ∨ s = d.f.length := by omega
        rcases hsf with e | e
        · have e2 : u.raised s = u.num := by rw [hUr, e, Nat.sub_self, Nat.pow_zero, Nat.mul_one]
          rw [e2]
          unfold roQ
          exact Nat.mul_le_mul_right _ (Nat.le_add_right _ _)
        · exfalso
          have h5 := hin.symm
          unfold mkN at h5
          rw [mk_none] at h5
          have h6 : d.raised s = d.num := by unfold Dc.raised; rw [e, Nat.sub_self, Nat.pow_zero, Nat.mul_one]
          have h7 := num_lt hd
          have h8 := Nat.div_mul_le_self (d.raised s) (u.raised s)
          rcases h5 with h5 | h5
          · omega
          · have e9 := absN d.neg
            rw [e9] at h5
            omega
      rw [hle]
      by_cases hm : mode = 8
      · exact tm_bound_true d.neg r.neg _ _ _ _ _ _ mode _ w H1 H2 H3 (beq_iff_eq.2 hm) (beq_iff_eq.2 (hsg.2 (by by_cases c : d.raised s % u.raised s = 0; exact c; exact absurd ⟨hm, c⟩ hin8)))
      · exact tm_bound_false d.neg r.neg _ _ _ _ _ _ mode _ w H1 H2 H3 (beq_eq_false_iff_ne.2 hm)
    | some x =>
      rw [hx] at H3 hin
      have hxf : x.f.length = s := (mk_some hin.symm).2.1
      obtain ⟨c1, c2⟩ := cut_eq (x := x) (s := s) (k := u.f.length) (by omega) (by rw [← hUr]; exact hin.symm)
      have hz : (dStr u.f).size ≤ (dStr x.f).size := by rw [dStr_size, dStr_size]; omega
      have hcut : (oF (some x)).extract 0 (dStr u.f).size = dStr (x.f.take u.f.length) := by show (dStr x.f).extract 0 (dStr u.f).size = _; rw [dStr_ext, dStr_size, List.drop_zero]
      by_cases he : d.raised s % u.raised s = 0
      · have hq : roQ mode d.neg (d.raised s) (u.raised s) = d.raised s / u.raised s := by unfold roQ; rw [he]; rfl
        rw [hq, c1]
        have ks : (r.z.sign == 0) = true := beq_iff_eq.2 (hsg.2 he)
        by_cases hm : mode = 8
        · have := tm_exact_true d.neg r.neg _ _ _ _ _ _ mode _ _ _ _ w H1 H2 H3 (beq_iff_eq.2 hm) ks hz
          rw [hcut] at this
          exact this
        · have := tm_exact_false d.neg r.neg _ _ _ _ _ _ mode _ _ _ _ w H1 H2 H3 (beq_eq_false_iff_ne.2 hm) ks hz
          rw [hcut] at this
          exact this
      · have hm : mode ≠ 8 := fun e => hin8 ⟨e, he⟩
        have k8 : (mode == 8) = false := beq_eq_false_iff_ne.2 hm
        have ks : (r.z.sign == 0) = false := beq_eq_false_iff_ne.2 fun e => he (hsg.1 e)
        have HC := fun wx => half_ok r u wx hrok hu hun (by omega) (by rw [hrn]; exact he) (by rw [hrn, hrf]; exact Nat.mod_lt _ U0)
        have HO := fun wx => odd_ok d u wx hd hu hun h0
        rw [← hs] at HO
        have H4 := fun wx => outer_core d.neg r.neg _ _ _ _ _ _ mode _ _ wx m1 (by omega) (fun _ => HC) (fun _ => HO)
        rw [hrf, hrn] at H4
        have hq : roQ mode d.neg (d.raised s) (u.raised s) = d.raised s / u.raised s + if upB mode d.neg (decide (d.raised s / u.raised s % 2 = 1)) (cmpN (2 * (d.raised s % u.raised s)) (u.raised s)) then 1 else 0 := by
          unfold roQ
          rw [decide_eq_true he, Bool.true_and]
        rw [hq]
        have hcz : (cutD x u.f.length).up u.f.length = if d.neg then -((d.raised s / u.raised s * u.num : Nat) : Int) else ((d.raised s / u.raised s * u.num : Nat) : Int) := by
          have h5 := (mk_some c1).1
          have h6 := (mk_some c1).2.1
          have hh : ∀ (y : Dc) (k : Nat), y.f.length = k → y.up k = y.z := fun y k h => by rw [← h, up_same]
          rw [hh _ _ h6, h5]
        have hcf : (cutD x u.f.length).f.length = u.f.length := (mk_some c1).2.1
        have huu : u.up u.f.length = (u.num : Int) := by rw [up_same]; unfold Dc.z; rw [hun]; rfl
        cases hup : upB mode d.neg (decide (d.raised s / u.raised s % 2 = 1)) (cmpN (2 * (d.raised s % u.raised s)) (u.raised s)) with
        | false =>
          rw [hup] at H4
          simp only [Bool.false_eq_true, if_false, Nat.add_zero]
          rw [c1]
          have := tm_inner d.neg r.neg _ _ _ _ _ _ mode _ _ _ _ w H1 H2 H3 H4 k8 ks hz
          rw [hcut] at this
          exact this
        | true =>
          rw [hup] at H4
          simp only [if_true]
          cases hn : d.neg with
          | true =>
            have hres : subD (cutD x u.f.length) u = mkN true ((d.raised s / u.raised s + 1) * u.num) u.f.length := by
              unfold subD
              rw [hcf, Nat.max_self, hcz, huu, hn]
              unfold mkN
              congr 1
              simp only [if_true]
              rw [Nat.add_mul, Nat.one_mul, Int.natCast_add]
              omega
            rw [hn] at H1 H3 H4
            have H5 := fun wx => sub_ok (cutD x u.f.length) u wx _ hres c2 hu
            rw [hun] at H5
            refine tm_outer_true r.neg _ _ _ _ _ _ mode _ _ _ _ _ _ _ _ w H1 H2 H3 H4 ?_ k8 ks hz
            rw [hcut]
            exact H5
          | false =>
            have hres : sumD (cutD x u.f.length) u = mkN false ((d.raised s / u.raised s + 1) * u.num) u.f.length := by
              unfold sumD
              rw [hcf, Nat.max_self, hcz, huu, hn]
              unfold mkN
              congr 1
              simp only [Bool.false_eq_true, if_false]
              rw [Nat.add_mul, Nat.one_mul, Int.natCast_add]
            rw [hn] at H1 H3 H4
            have H5 := fun wx => add_ok (cutD x u.f.length) u wx _ hres c2 hu
            rw [hun] at H5
            refine tm_outer_false r.neg _ _ _ _ _ _ mode _ _ _ _ _ _ _ _ w H1 H2 H3 H4 ?_ k8 ks hz
            rw [hcut]
            exact H5
end Go.Proofs.YtpbljcjghjbjdaaDoor
