/- RoundAgain: what is rounded stays. -/
import Derived.Test.YtcdmanhhddcmcaaRfA
import Derived.Test.YtcdmanhhddcmcaaRgC
import Derived.Test.YtcdmanhhddcmcaaLawRAg
namespace Go.Proofs.Ytcdmanhhddcmcaa
open Go.RowKit

theorem cutTo_again (f : List Nat) (P : Nat) : ∀ k, cutTo (f.take (cutTo f P k)) P (cutTo f P k) = cutTo f P k
  | 0 => rfl
  | k + 1 => by
    by_cases h : P < k + 1 ∧ f.getD k 0 = 0
    · have e : cutTo f P (k + 1) = cutTo f P k := if_pos h
      rw [e]
      exact cutTo_again f P k
    · have e : cutTo f P (k + 1) = k + 1 := if_neg h
      rw [e]
      refine if_neg (fun c => h ⟨c.1, ?_⟩)
      have := c.2
      rw [List.getD_eq_getElem?_getD, List.getElem?_take, if_pos (by omega)] at this
      rw [List.getD_eq_getElem?_getD]
      exact this
theorem cutTo_ge (f : List Nat) (P : Nat) : ∀ k, P ≤ k → P ≤ cutTo f P k
  | 0, h => h
  | k + 1, h => by
    by_cases c : P < k + 1 ∧ f.getD k 0 = 0
    · have e : cutTo f P (k + 1) = cutTo f P k := if_pos c
      rw [e]
      exact cutTo_ge f P k (by omega)
    · have e : cutTo f P (k + 1) = k + 1 := if_neg c
      rw [e]
      exact h
theorem cutTo_small (f : List Nat) (P : Nat) : ∀ k, k ≤ P → cutTo f P k = k
  | 0, _ => rfl
  | k + 1, h => if_neg (fun c => by have := c.1; omega)
/-- Cut and padded once more: the same. -/
theorem again_ok {x a : Dc} (hx : x.Ok) (p : Nat) (h : padD (cutZ x p) p = some a) : a.Ok ∧ a.f.length = max (cutTo x.f p x.f.length) p ∧ a.i = x.i ∧ a.f = x.f.take (cutTo x.f p x.f.length) ++ List.replicate (max (cutTo x.f p x.f.length) p - cutTo x.f p x.f.length) 0 ∧ padD (cutZ a p) p = some a := by
  have hc := cutTo_le x.f p x.f.length
  have hK : (cutZ x p).f.length = cutTo x.f p x.f.length := by show (x.f.take _).length = _; rw [List.length_take]; omega
  obtain ⟨K, hk⟩ : ∃ K, K = cutTo x.f p x.f.length := ⟨_, rfl⟩
  have hf := pad_form (cut_ok hx p) p (max K p) (by rw [hK, ← hk])
  rw [hf] at h
  rw [← hk] at hK
  split at h
  · cases h
  rename_i hb
  have ha : a = padded (cutZ x p) (max K p - (cutZ x p).f.length) := (Option.some.inj h).symm
  rw [hK] at ha
  have hai : a.i = x.i := by rw [ha]; rfl
  have haf : a.f = x.f.take K ++ List.replicate (max K p - K) 0 := by rw [ha, hk]; rfl
  have hal : a.f.length = max K p := by rw [haf, List.length_append, List.length_take, List.length_replicate]; omega
  have haok : a.Ok := by
    have h2 : padD (cutZ x p) p = some a := by rw [hf, if_neg hb, hK]; exact congrArg some ha.symm
    exact (mk_some h2).2.2.1
  have hstay : cutTo a.f p a.f.length = a.f.length := by
    by_cases hp : K ≤ p
    · exact cutTo_small a.f p a.f.length (by omega)
    · have e1 : a.f = x.f.take K := by rw [haf, show max K p - K = 0 by omega, List.replicate_zero, List.append_nil]
      have e2 : a.f.length = K := by omega
      rw [e2, e1, hk]
      exact cutTo_again x.f p x.f.length
  have hcz : cutZ a p = a := by
    unfold cutZ
    rw [hstay, List.take_length]
  refine ⟨haok, by rw [hal, hk], hai, by rw [haf, hk], ?_⟩
  rw [hcz, pad_form haok p a.f.length (by omega), if_neg (by have := haok.most; omega), Nat.sub_self]
  congr 1
  unfold padded
  rw [List.replicate_zero, List.append_nil]
/-- A nought behind is one significant digit more. -/
theorem cnt_snoc2 (l : List Nat) : cntL (l ++ [0]) = cntL l + 1 := by
  unfold cntL
  rw [dVal_append]
  have e : dVal l * 10 ^ [0].length + dVal [0] = dVal l * 10 := by rw [dVal_one]; rfl
  rw [e]
  by_cases h : dVal l = 0
  · rw [if_pos (by rw [h]), if_pos h, List.length_append]; rfl
  · rw [if_neg (by omega), if_neg h]
    have := digs_snoc (n := dVal l) (d := 0) (by omega) (by omega)
    rw [Nat.add_zero] at this
    rw [this, List.length_append]; rfl
theorem cnt_cut (i f : List Nat) (P C : Nat) : ∀ k, k ≤ f.length → cntL (i ++ f.take k) + (f.length - k) = C → cntL (i ++ f.take (cutTo f P k)) + (f.length - cutTo f P k) = C
  | 0, _, h => h
  | k + 1, hk, h => by
    by_cases h0 : P < k + 1 ∧ f.getD k 0 = 0
    · have e1 : cutTo f P (k + 1) = cutTo f P k := if_pos h0
      have ht := take_at f k (by omega)
      rw [h0.2] at ht
      have hc : cntL (i ++ f.take (k + 1)) = cntL (i ++ f.take k) + 1 := by rw [ht, ← List.append_assoc, cnt_snoc2]
      rw [e1]
      exact cnt_cut i f P C k (by omega) (by omega)
    · have e1 : cutTo f P (k + 1) = k + 1 := if_neg h0
      rw [e1]
      exact h
theorem cnt_room {d : Dc} (hd : d.Ok) : 1 ≤ sigD d ∧ sigD d ≤ d.i.length + d.f.length := by
  have h1 := hd.one
  unfold sigD cntL
  split
  · rw [List.length_append]; omega
  · have h2 := (digs_le (dVal (d.i ++ d.f)) (d.i ++ d.f).length (by rw [List.length_append]; omega)).2 (dVal_lt (hd.di.append hd.df))
    rw [List.length_append] at h2
    exact ⟨digs_len _, h2⟩
def SgQ (mode least most : Int) (n : Bool) (i f : ByteArray) (v : Value) : Prop := ∀ w : World, Calls Try.prog 27 #[.agg #[.bool n, .string i, .string f], .int .i64 mode, .int .i64 least, .int .i64 most] w fun e w' => e = .returned v ∧ Below w.heap.size w w'
/-- To one digit at least and forty at most nothing is rounded. -/
theorem sig_one (d : Dc) (mode : Int) (P : Nat) (o : Option Dc) (hd : d.Ok) (m1 : 1 ≤ mode) (m8 : mode ≤ 8) (hP : (P : Int) = max 0 ((d.f.length : Int) + 1 - (sigD d : Nat))) (ho : padD (cutZ d P) P = o) : SgQ mode 1 40 d.neg (dStr d.i) (dStr d.f) (RES o) := by
  have dm := hd.most
  have d1 := hd.one
  have hmB : modeB mode = true := by unfold modeB; rw [decide_eq_true m1, decide_eq_true m8]; rfl
  have hE : modeE (okB d.neg (dStr d.i) (dStr d.f)) mode = 0 := by unfold modeE; rw [ok_of hd, hmB]; rfl
  have szi : (dStr d.i).size = d.i.length := dStr_size d.i
  have szf : (dStr d.f).size = d.f.length := dStr_size d.f
  have hb1 : (dStr d.i).size ≤ 140737488355328 := by omega
  have hb2 : (dStr d.f).size ≤ 140737488355328 := by omega
  have HC := fun wx => checkRange_any d.neg (dStr d.i) (dStr d.f) mode 1 1 40 wx hb1 hb2
  have hR : rangeE (okB d.neg (dStr d.i) (dStr d.f)) mode 1 1 40 = 0 := by unfold rangeE; rw [if_pos hE, if_neg (by omega)]
  rw [hR] at HC
  have HS := fun wx => sig_any d wx hd
  obtain ⟨r1, r2⟩ := cnt_room hd
  refine fun w => sg_plain d.neg _ _ mode 1 40 (sigD d : Nat) _ _ _ _ w HC HS (fun wx pI hI => ?_) (by omega) (by omega) (by omega) (by omega) (by omega) (by omega) (by omega) (by omega)
  rw [szf] at hI
  by_cases hlo : (d.f.length : Int) + 1 - (sigD d : Nat) < 0
  · have h0 : P = 0 := by omega
    subst h0
    exact wz_neg d pI wx _ ho hd (by omega)
  · have e : pI = (P : Int) := by omega
    rw [e]
    exact wz_pos d P wx _ ho hd (by omega)
theorem sig_again (d : Dc) (mode : Int) (hd : d.Ok) (m1 : 1 ≤ mode) (m8 : mode ≤ 8) : ∃ c : Dc, SgQ mode 1 40 d.neg (dStr d.i) (dStr d.f) (RES (some c)) ∧ SgQ 8 1 40 c.neg (dStr c.i) (dStr c.f) (RES (some c)) := by
  have dm := hd.most
  obtain ⟨r1, r2⟩ := cnt_room hd
  obtain ⟨P, hP⟩ : ∃ P : Nat, (P : Int) = max 0 ((d.f.length : Int) + 1 - (sigD d : Nat)) := ⟨(max 0 ((d.f.length : Int) + 1 - (sigD d : Nat))).toNat, by omega⟩
  have hc := cutTo_le d.f P d.f.length
  have hg := cutTo_ge d.f P d.f.length (by omega)
  have hK : (cutZ d P).f.length = cutTo d.f P d.f.length := by show (d.f.take _).length = _; rw [List.length_take]; omega
  have hpad := pad_form (cut_ok hd P) P (cutTo d.f P d.f.length) (by omega)
  have hil : (cutZ d P).i = d.i := rfl
  rw [hil, if_neg (by omega)] at hpad
  obtain ⟨c, hcc⟩ : ∃ c, padD (cutZ d P) P = some c := ⟨_, hpad⟩
  obtain ⟨c1, c2, c3, c4, c5⟩ := again_ok hd P hcc
  rw [Nat.max_eq_left hg] at c2 c4
  rw [Nat.sub_self, List.replicate_zero, List.append_nil] at c4
  have hcnt := cnt_cut d.i d.f P (sigD d) d.f.length (Nat.le_refl _) (by rw [List.take_length]; unfold sigD; omega)
  have hsc : sigD c + (d.f.length - cutTo d.f P d.f.length) = sigD d := by
    rw [← hcnt]
    unfold sigD
    rw [c3, c4]
  exact ⟨c, sig_one d mode P _ hd m1 m8 hP hcc, sig_one c 8 P _ c1 (by omega) (by omega) (by omega) c5⟩
/-- Fix, and once more. -/
theorem fix_again (n : Bool) (i f : ByteArray) (mode least most : Int) (hi : i.size ≤ 140737488355328) (hf : f.size ≤ 140737488355328) :
    (∃ (yn : Bool) (yi yf : ByteArray) (c : Int), c ≠ 0 ∧ FxP mode least most n i f (.tuple #[.agg #[.bool yn, .string yi, .string yf], .int .i64 c]) ∧ FxR mode least most n i f (.tuple #[.agg #[.bool yn, .string yi, .string yf], .int .i64 c])) ∨
    (∃ d a : Dc, d.Ok ∧ n = d.neg ∧ i = dStr d.i ∧ f = dStr d.f ∧ 1 ≤ mode ∧ mode ≤ 8 ∧ FxP mode least most n i f (RES (some a)) ∧ FxP 8 least most a.neg (dStr a.i) (dStr a.f) (RES (some a))) := by
  have HC := fun wx => checkRange_any n i f mode 0 least most wx hi hf
  have HA := fun wx => asked_any n i f mode wx hi hf
  by_cases hE : modeE (okB n i f) mode = 0
  case neg =>
    rw [show rangeE (okB n i f) mode 0 least most = modeE (okB n i f) mode by unfold rangeE; rw [if_neg hE]] at HC
    exact .inl ⟨_, _, _, _, hE, fun w => fx_bad n i f mode least most _ w HC (bne_iff_ne.2 hE), fun w => rf_bad n i f mode least most _ w HA (bne_iff_ne.2 hE)⟩
  rw [hE] at HA
  by_cases hb : least < 0 ∨ most < least ∨ 40 < most
  · rw [show rangeE (okB n i f) mode 0 least most = 1 by unfold rangeE; rw [if_pos hE, if_pos (by omega)]] at HC
    refine .inl ⟨_, _, _, 1, by omega, fun w => fx_bad n i f mode least most 1 w HC (by decide), fun w => ?_⟩
    by_cases h0 : least < 0
    · exact rf_arg0 n i f mode least most w HA h0
    by_cases h1 : 40 < least
    · exact rf_arg1 n i f mode least most w HA h0 h1
    by_cases h2 : most < least
    · exact rf_arg2 n i f mode least most w HA h0 h1 h2
    exact rf_arg3 n i f mode least most w HA h0 h1 h2 (by omega)
  obtain ⟨p, rfl⟩ : ∃ p : Nat, least = p := ⟨least.toNat, by omega⟩
  obtain ⟨m, rfl⟩ : ∃ m : Nat, most = m := ⟨most.toNat, by omega⟩
  obtain ⟨hk, m1, m8⟩ := mode_of3 hE
  rw [show rangeE (okB n i f) mode 0 p m = 0 by unfold rangeE; rw [if_pos hE, if_neg (by omega)]] at HC
  obtain ⟨d, hd, rfl, rfl, rfl⟩ := ok_cases hk
  have fin : ∀ x : Dc, x.Ok → x.f.length ≤ m → TpP mode m d.neg (dStr d.i) (dStr d.f) (RES (some x)) → PlR mode m d.neg (dStr d.i) (dStr d.f) (RES (some x)) →
      (∃ (yn : Bool) (yi yf : ByteArray) (c : Int), c ≠ 0 ∧ FxP mode p m d.neg (dStr d.i) (dStr d.f) (.tuple #[.agg #[.bool yn, .string yi, .string yf], .int .i64 c]) ∧ FxR mode p m d.neg (dStr d.i) (dStr d.f) (.tuple #[.agg #[.bool yn, .string yi, .string yf], .int .i64 c])) ∨
      (∃ d2 a : Dc, d2.Ok ∧ d.neg = d2.neg ∧ dStr d.i = dStr d2.i ∧ dStr d.f = dStr d2.f ∧ 1 ≤ mode ∧ mode ≤ 8 ∧ FxP mode p m d.neg (dStr d.i) (dStr d.f) (RES (some a)) ∧ FxP 8 p m a.neg (dStr a.i) (dStr a.f) (RES (some a))) := by
    intro x hx hxl h1 h2
    obtain ⟨g1, g2⟩ := fix_ok d x mode p m hd hx m1 m8 (by omega) (by omega) h1 h2
    cases ho : padD (cutZ x p) p with
    | none =>
      rw [ho] at g1 g2
      exact .inl ⟨_, _, _, 3, by omega, g1, g2⟩
    | some a =>
      rw [ho] at g1
      obtain ⟨a1, a2, -, -, a5⟩ := again_ok hx p ho
      have hc := cutTo_le x.f p x.f.length
      obtain ⟨p1, -, -⟩ := tplaces_ok a 8 m a1 (by omega) (by omega) (by omega)
      obtain ⟨k1, k2⟩ := p1 (by omega)
      have := (fix_ok a a 8 p m a1 a1 (by omega) (by omega) (by omega) (by omega) k1 k2).1
      rw [a5] at this
      exact .inr ⟨d, a, hd, rfl, rfl, rfl, m1, m8, g1, this⟩
  obtain ⟨p1, p2, p3⟩ := tplaces_ok d mode m hd m1 m8 (by omega)
  by_cases hle : d.f.length ≤ m
  · obtain ⟨h1, h2⟩ := p1 hle
    exact fin d hd hle h1 h2
  by_cases h8 : mode = 8 ∧ d.num % 10 ^ (d.f.length - m) ≠ 0
  · obtain ⟨h1, h2⟩ := p2 hle h8
    exact .inl ⟨_, _, _, 31, by omega, fun w => fx_err d.neg _ _ mode p m _ _ _ 31 w HC h1 (by decide), fun w => rf_err d.neg _ _ mode p m _ _ _ 31 w HA h2 (by omega) (by omega) (by omega) (by omega) (by decide)⟩
  · obtain ⟨x, hx, h1, h2⟩ := p3 hle h8
    obtain ⟨-, x2, x3, -, -⟩ := mk_some hx
    exact fin x x3 (by omega) h1 h2
theorem ragain_walk (n : Bool) (i f : ByteArray) (mode : Int) (least most : Int) (w : World) (hi : i.size ≤ 140737488355328) (hf : f.size ≤ 140737488355328) (_h1 : -9223372036854775808 ≤ mode) (_h2 : mode ≤ 9223372036854775807) :
    Calls Try.prog 11 #[.agg #[.bool n, .string i, .string f], .int .i64 mode, .agg #[.int .i64 least, .int .i64 most]] w fun e w' => e = .returned (.bool true) ∧ Below w.heap.size w w' := by
  rcases fix_again n i f mode least most hi hf with ⟨yn, yi, yf, c, hc, h1, h2⟩ | ⟨d, a, hd, rfl, rfl, rfl, m1, m8, h1, h2⟩
  · exact ragain_bad n i f mode least most yn yi yf c w h1 h2 (bne_iff_ne.2 hc)
  · obtain ⟨z, s1, s2⟩ := sig_again d mode hd m1 m8
    exact ragain_ok d.neg (dStr d.i) (dStr d.f) mode least most a.neg (dStr a.i) (dStr a.f) z.neg (dStr z.i) (dStr z.f) w h1 h2 s1 s2
end Go.Proofs.Ytcdmanhhddcmcaa
