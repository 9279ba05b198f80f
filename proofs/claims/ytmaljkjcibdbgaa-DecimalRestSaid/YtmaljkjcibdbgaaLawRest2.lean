/- DecimalRest, put together. -/
import Derived.Test.YtmaljkjcibdbgaaLawRest
import Derived.Test.YtmaljkjcibdbgaaDOut
namespace Go.Proofs.Ytmaljkjcibdbgaa
open Go.RowKit

theorem rest_facts {a b r : Dc} (ha : a.Ok) (h0 : b.num ≠ 0) (hr : remD a b = some r) :
    r.Ok ∧ r.f.length = max a.f.length b.f.length ∧ (r.neg = true → a.neg = true) ∧ (r.neg = false → a.neg = true → cmpD r dcZero = 0) ∧ cmpD (absD r) (absD b) < 0 := by
  obtain ⟨h1, h2, h3, h4, h5⟩ := mk_some hr
  have hy : b.up (max a.f.length b.f.length) ≠ 0 := fun h => h0 ((z_num b).1 ((up_zero _).1 h))
  obtain ⟨s1, s2, s3, s4⟩ := rem_small (x := a.up (max a.f.length b.f.length)) hy
  refine ⟨h3, h2, fun h => ?_, fun h hn => ?_, ?_⟩
  · rw [h5, decide_eq_true_eq] at h
    exact up_neg _ (s3 h)
  · rw [h5, decide_eq_false_iff_not] at h
    have ha0 : a.up (max a.f.length b.f.length) < 0 := by
      have hz : a.z ≠ 0 := fun e => ha.sign hn ((z_num a).1 e)
      have := (not_congr (up_zero (d := a) (max a.f.length b.f.length))).2 hz
      rw [up_raised, hn, if_pos rfl] at this ⊢
      omega
    have hz0 : (a.up (max a.f.length b.f.length)).tmod (b.up (max a.f.length b.f.length)) = 0 := by
      rcases Int.lt_trichotomy ((a.up (max a.f.length b.f.length)).tmod (b.up (max a.f.length b.f.length))) 0 with c | c | c
      · exact absurd c h
      · exact c
      · have := s4 c; omega
    rw [cmp_zero (max a.f.length b.f.length) (by omega) (by show 0 ≤ _; omega)]
    rw [(up_zero (d := r) _).2 (h1.trans hz0), (up_zero (d := dcZero) _).2 (by decide)]
  · rw [cmp_sign (absD r) (absD b) (max a.f.length b.f.length) (by show r.f.length ≤ _; omega) (by show b.f.length ≤ _; omega), abs_up, abs_up]
    have e : r.up (max a.f.length b.f.length) = (a.up (max a.f.length b.f.length)).tmod (b.up (max a.f.length b.f.length)) := by rw [← h1, ← h2, up_same]
    rw [e, Int.sign_eq_neg_one_of_neg (by omega)]
    decide

theorem rest_walk (na : Bool) (ia fa : ByteArray) (nb : Bool) (ib fb : ByteArray) (n : Int) (w : World) (h1 : ia.size ≤ 140737488355328) (h2 : fa.size ≤ 140737488355328) (h3 : ib.size ≤ 140737488355328) (h4 : fb.size ≤ 140737488355328) (_h5 : -9223372036854775808 ≤ n) (_h6 : n ≤ 9223372036854775807) :
    Calls Try.prog 6 #[.agg #[.bool na, .string ia, .string fa], .agg #[.bool nb, .string ib, .string fb], .int .i64 n] w fun e w' => e = .returned (.bool true) ∧ Below w.heap.size w w' := by
  cases hka : okB na ia fa with
  | false => exact rest_er na nb ia fa ib fb n 20 w (fun wx => rem_bad1 na nb ia fa ib fb wx h1 h2 hka) (by decide)
  | true =>
    cases hkb : okB nb ib fb with
    | false => exact rest_er na nb ia fa ib fb n 20 w (fun wx => rem_bad2 na nb ia fa ib fb wx h1 h2 h3 h4 hka hkb) (by decide)
    | true =>
      obtain ⟨a, ha, rfl, rfl, rfl⟩ := ok_cases hka
      obtain ⟨b, hb, rfl, rfl, rfl⟩ := ok_cases hkb
      by_cases h0 : b.num = 0
      · exact rest_er _ _ _ _ _ _ n 21 w (fun wx => rem_zero a b wx ha hb h0) (by decide)
      · obtain ⟨r, hr⟩ := rem_room ha hb (fun e => h0 ((z_num b).1 e))
        obtain ⟨r1, r2, r3, r4, r5⟩ := rest_facts ha h0 hr
        obtain ⟨oc, ec, C1, C2⟩ := shift_opt a n ha
        obtain ⟨od, ed, D1, D2⟩ := shift_opt b n hb
        refine rest_core a.neg b.neg r.neg (oN (quoD a b)) (oN oc) (oN od) (dStr a.i) (dStr a.f) (dStr b.i) (dStr b.f) (dStr r.i) (dStr r.f) (oI (quoD a b)) (oF (quoD a b)) (oI oc) (oF oc) (oI od) (oF od) n (cmpD (absD r) (absD b)) (oE (quoD a b)) ec ed w
          (fun wx => rem_ok a b wx (some r) hr ha hb h0) ?_ (fun wx => compare_ok (absD r) (absD b) wx (abs_ok r1) (abs_ok hb)) ?_ (fun wx => div_ok a b wx _ rfl ha hb h0) ?_ C1 D1 ?_ r5 r3 (by rw [dStr_size, dStr_size, dStr_size]; exact r2)
        · intro g wx hg
          exact fine_oks [(a.neg, dStr a.i, dStr a.f), (b.neg, dStr b.i, dStr b.f), (r.neg, dStr r.i, dStr r.f)] 3 rfl (by omega) (by simp [ok_of ha, ok_of hb, ok_of r1]) wx g hg
        · intro e1 e2 wx
          exact great_yes r dcZero wx r1 (by exact ⟨fun d hd => by simp [dcZero] at hd; omega, fun d hd => by simp [dcZero] at hd, by decide, by decide, .inl rfl, fun e => by cases e⟩) (r4 e1 e2)
        · intro he
          cases hq : quoD a b with
          | none => rw [hq] at he; cases he
          | some q =>
            obtain ⟨q1, q2⟩ := quo_some hq
            refine ⟨by show dStr q.f = _; rw [q2]; rfl, fun g wx hg => fine_oks [(q.neg, dStr q.i, dStr q.f)] 1 rfl (by omega) (by simp [ok_of q1]) wx g hg, oN (mulD q b), oI (mulD q b), oF (mulD q b), oE (mulD q b), fun wx => mul_ok q b wx _ rfl q1 hb, fun he3 => ?_⟩
            cases hp : mulD q b with
            | none => rw [hp] at he3; cases he3
            | some p =>
              have p1 := (mk_some hp).2.2.1
              refine ⟨oN (sumD p r), oI (sumD p r), oF (sumD p r), oE (sumD p r), fun wx => add_ok p r wx _ rfl p1 r1, fun he4 wx => ?_⟩
              cases hs : sumD p r with
              | none => rw [hs] at he4; cases he4
              | some s => exact great_yes s a wx (mk_some hs).2.2.1 ha (quo_rem hq hr hp hs)
        · intro hec hed
          obtain ⟨c, rfl, c1, n1, n2, c2⟩ := C2 hec
          obtain ⟨d, rfl, d1, -, -, d2⟩ := D2 hed
          have hd0 : d.num ≠ 0 := by
            intro e
            have hu := sh_up d2 (max b.f.length d.f.length) (by omega) (by omega)
            rw [(up_zero _).2 ((z_num d).2 e), Int.zero_mul] at hu
            have := (not_congr (up_zero (d := b) (max b.f.length d.f.length))).2 (fun e => h0 ((z_num b).1 e))
            rcases Int.mul_eq_zero.1 hu.symm with h | h
            · exact this h
            · have := ten_pos n.toNat; omega
          obtain ⟨u, hu⟩ := rem_room c1 d1 (fun e => hd0 ((z_num d).1 e))
          obtain ⟨ov, ev, V1, V2⟩ := shift_opt r n r1
          refine ⟨u.neg, dStr u.i, dStr u.f, oN ov, oI ov, oF ov, ev, fun wx => rem_ok c d wx (some u) hu c1 d1 hd0, V1, fun hev wx => ?_⟩
          obtain ⟨v, rfl, v1, -, -, v2⟩ := V2 hev
          exact great_yes u v wx (mk_some hu).2.2.1 v1 (sh_rem hr c2 d2 hu v2)
end Go.Proofs.Ytmaljkjcibdbgaa
