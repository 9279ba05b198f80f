/- RoundDigits: both sides round to digits alike. -/
import Derived.Test.YtcdmanhhddcmcaaRgB
import Derived.Test.YtcdmanhhddcmcaaRgC
import Derived.Test.YtcdmanhhddcmcaaRoAwake
namespace Go.Proofs.Ytcdmanhhddcmcaa
open Go.RowKit

/-- What the reference cuts is what the program cuts. -/
theorem cut_same (i f : List Nat) (p P C : Nat) (hP : (P : Int) = max 0 ((f.length : Int) + p - C)) : ∀ k, k ≤ f.length → cntL (i ++ f.take k) + (f.length - k) = C → cutS i f p k = cutTo f P k ∧ cntL (i ++ f.take (cutTo f P k)) + (f.length - cutTo f P k) = C
  | 0, _, h => ⟨rfl, h⟩
  | k + 1, hk, h => by
    by_cases h0 : f.getD k 0 = 0
    · have ht := take_at f k (by omega)
      rw [h0] at ht
      have hc : cntL (i ++ f.take (k + 1)) = cntL (i ++ f.take k) + 1 := by rw [ht, ← List.append_assoc, cnt_snoc]
      by_cases h1 : P < k + 1
      · have e1 : cutTo f P (k + 1) = cutTo f P k := if_pos ⟨h1, h0⟩
        have e2 : cutS i f p (k + 1) = cutS i f p k := if_pos ⟨by omega, h0⟩
        rw [e1, e2]
        exact cut_same i f p P C hP k (by omega) (by omega)
      · have e1 : cutTo f P (k + 1) = k + 1 := if_neg (fun c => h1 c.1)
        have e2 : cutS i f p (k + 1) = k + 1 := if_neg (fun c => h1 (by have := c.1; omega))
        rw [e1, e2]
        exact ⟨rfl, h⟩
    · have e1 : cutTo f P (k + 1) = k + 1 := if_neg (fun c => h0 c.2)
      have e2 : cutS i f p (k + 1) = k + 1 := if_neg (fun c => h0 c.2)
      rw [e1, e2]
      exact ⟨rfl, h⟩
theorem cutTo_zero (f : List Nat) (P : Nat) : ∀ k, (∀ j, j < k → f.getD j 0 = 0) → cutTo f P k ≤ P
  | 0, _ => Nat.zero_le _
  | k + 1, h => by
    by_cases h1 : P < k + 1
    · have e1 : cutTo f P (k + 1) = cutTo f P k := if_pos ⟨h1, h k (by omega)⟩
      rw [e1]
      exact cutTo_zero f P k (fun j hj => h j (by omega))
    · have e1 : cutTo f P (k + 1) = k + 1 := if_neg (fun c => h1 c.1)
      rw [e1]
      omega
def endF (x : Dc) (p : Nat) : List Nat := x.f.take (cutS x.i x.f p x.f.length) ++ List.replicate (p - cntL (x.i ++ x.f.take (cutS x.i x.f p x.f.length))) 0
/-- The places behind, told by the program's number of places. -/
theorem endF_eq (x : Dc) (p P : Nat) (hP : (P : Int) = max 0 ((x.f.length : Int) + p - (sigD x : Nat))) : endF x p = x.f.take (cutTo x.f P x.f.length) ++ List.replicate (P - cutTo x.f P x.f.length) 0 := by
  have hc := cutTo_le x.f P x.f.length
  obtain ⟨e1, e2⟩ := cut_same x.i x.f p P (sigD x) hP x.f.length (Nat.le_refl _) (by rw [List.take_length]; unfold sigD; omega)
  unfold endF
  rw [e1]
  congr 2
  omega
theorem endF_len (x : Dc) (p P : Nat) (hP : (P : Int) = max 0 ((x.f.length : Int) + p - (sigD x : Nat))) : (endF x p).length = max (cutTo x.f P x.f.length) P := by
  have hc := cutTo_le x.f P x.f.length
  rw [endF_eq x p P hP, List.length_append, List.length_take, List.length_replicate]
  omega
/-- The end of both sides tells the same. -/
theorem sig_end (x : Dc) (p : Nat) (hx : x.Ok) (h1 : 1 ≤ p) (h4 : p ≤ 40) : ∃ (zn : Bool) (zi zf : ByteArray) (c : Int),
    (∀ (wx : World) {F : ByteArray}, F = dStr (x.f.take (cutS x.i x.f p x.f.length) ++ List.replicate (p - cntL (x.i ++ x.f.take (cutS x.i x.f p x.f.length))) 0) → Calls Try.prog 66 #[.agg #[.bool x.neg, .string (dStr x.i), .string F]] wx fun r w' => r = .returned (.tuple #[.agg #[.bool zn, .string zi, .string zf], .int .i64 c]) ∧ Below wx.heap.size wx w') ∧
    (∀ (wx : World) {pI : Int}, pI = ((dStr x.f).size : Int) + (p : Int) - (sigD x : Nat) → Calls Try.prog 59 #[.agg #[.bool x.neg, .string (dStr x.i), .string (dStr x.f)], .int .i64 pI] wx fun r w' => r = .returned (.tuple #[.agg #[.bool zn, .string zi, .string zf], .int .i64 c]) ∧ Below wx.heap.size wx w') := by
  have hm := hx.most
  obtain ⟨P, hP⟩ : ∃ P : Nat, (P : Int) = max 0 ((x.f.length : Int) + p - (sigD x : Nat)) := ⟨(max 0 ((x.f.length : Int) + p - (sigD x : Nat))).toNat, by omega⟩
  have hl := endF_len x p P hP
  have he := endF_eq x p P hP
  have hc := cutTo_le x.f P x.f.length
  have hb : ∀ wx : World, Calls Try.prog 66 #[.agg #[.bool x.neg, .string (dStr x.i), .string (dStr (endF x p))]] wx fun r w' => r = .returned (boundV x.neg (dStr x.i) (dStr (endF x p))) ∧ Below wx.heap.size wx w' := fun wx => rbound_any x.neg (dStr x.i) (dStr (endF x p)) wx (by rw [dStr_size, dStr_size, hl]; omega)
  by_cases hhi : 40 < (x.f.length : Int) + p - (sigD x : Nat)
  · have hv : boundV x.neg (dStr x.i) (dStr (endF x p)) = .tuple #[.agg #[.bool false, .string ⟨#[]⟩, .string ⟨#[]⟩], .int .i64 3] := by
      unfold boundV
      rw [dStr_size, dStr_size, hl, if_pos (by omega)]
    rw [hv] at hb
    exact ⟨false, ⟨#[]⟩, ⟨#[]⟩, 3, fun wx F hF => by rw [hF]; exact hb wx, fun wx pI hI => wz_hi x.neg (dStr x.i) (dStr x.f) pI wx (by rw [hI, dStr_size]; exact hhi)⟩
  · have hv : boundV x.neg (dStr x.i) (dStr (endF x p)) = RES (padD (cutZ x P) P) := by rw [he]; exact bound_cut hx P
    rw [hv] at hb
    refine ⟨_, _, _, _, fun wx F hF => by rw [hF]; exact hb wx, fun wx pI hI => ?_⟩
    rw [dStr_size] at hI
    by_cases hlo : (x.f.length : Int) + p - (sigD x : Nat) < 0
    · have h0 : P = 0 := by omega
      subst h0
      exact wz_neg x pI wx _ rfl hx (by omega)
    · have e : pI = (P : Int) := by omega
      rw [e]
      exact wz_pos x P wx _ rfl hx (by omega)

/-- A nought: its digits are noughts all. -/
theorem zero_form {x : Dc} (hx : x.Ok) (h0 : x.num = 0) : x.neg = false ∧ x.i = [0] ∧ x.f = List.replicate x.f.length 0 := by
  have hn : x.neg = false := by
    cases h : x.neg with
    | false => rfl
    | true => exact absurd h0 (hx.sign h)
  have hall : x.i ++ x.f = List.replicate (x.i ++ x.f).length 0 := dVal_inj (hx.di.append hx.df) (.zeros _) (by rw [List.length_replicate]) (by rw [dVal_zeros]; exact h0)
  have hmem : ∀ y, y ∈ x.i ++ x.f → y = 0 := fun y hy => by rw [hall] at hy; exact List.eq_of_mem_replicate hy
  have hi1 : x.i.length = 1 := by
    rcases hx.lead with h | ⟨y, hy, hy0⟩
    · exact h
    · exact absurd (hmem y (List.mem_append_left _ (List.mem_of_mem_head? hy))) hy0
  refine ⟨hn, ?_, List.eq_replicate_iff.2 ⟨rfl, fun y hy => hmem y (List.mem_append_right _ hy)⟩⟩
  have := List.eq_replicate_iff.2 ⟨hi1, fun y hy => hmem y (List.mem_append_left _ hy)⟩
  exact this
theorem zero_sig {x : Dc} (hx : x.Ok) (h0 : x.num = 0) : sigD x = 1 + x.f.length := by
  obtain ⟨-, hi, -⟩ := zero_form hx h0
  have e : dVal (x.i ++ x.f) = 0 := h0
  unfold sigD cntL
  rw [if_pos e, List.length_append, hi]
  rfl
theorem zero_end {x : Dc} (hx : x.Ok) (h0 : x.num = 0) (p : Nat) (h1 : 1 ≤ p) : endF x p = List.replicate (p - 1) 0 := by
  obtain ⟨-, hi, hf⟩ := zero_form hx h0
  have hs := zero_sig hx h0
  have hP : ((p - 1 : Nat) : Int) = max 0 ((x.f.length : Int) + p - (sigD x : Nat)) := by omega
  have hc := cutTo_le x.f (p - 1) x.f.length
  have hz : cutTo x.f (p - 1) x.f.length ≤ p - 1 := cutTo_zero x.f (p - 1) x.f.length (fun j hj => by
    rw [hf, List.getD_eq_getElem?_getD, List.getElem?_replicate]
    split <;> rfl)
  rw [endF_eq x p (p - 1) hP]
  have e : x.f.take (cutTo x.f (p - 1) x.f.length) = List.replicate (cutTo x.f (p - 1) x.f.length) 0 := by
    obtain ⟨k, hk⟩ : ∃ k, k = cutTo x.f (p - 1) x.f.length := ⟨_, rfl⟩
    rw [← hk] at hc ⊢
    rw [hf, List.take_replicate, Nat.min_eq_left hc]
  rw [e, List.replicate_append_replicate]
  congr 1
  omega
/-- A digit's number times a power of ten. -/
theorem digs_times {n : Nat} (hn : 0 < n) : ∀ j, digs (n * 10 ^ j) = digs n ++ List.replicate j 0
  | 0 => by simp
  | j + 1 => by
    have h := digs_snoc (n := n * 10 ^ j) (d := 0) (Nat.mul_pos hn (Nat.pow_pos (by omega))) (by omega)
    rw [digs_times hn j] at h
    rw [Nat.pow_succ, ← Nat.mul_assoc, List.replicate_succ', ← List.append_assoc, ← h, Nat.add_zero]
/-- The unit: a power of ten. -/
theorem unit_ok (drop fl : Nat) (h2 : drop ≤ fl + 39) (h3 : fl ≤ 39) (h1 : 1 ≤ drop) : ∃ t, shD (natD 1) ((drop : Int) - (fl : Int)) = some t ∧ t.Ok ∧ t.neg = false ∧ t.num = 10 ^ (drop - fl) ∧ t.f.length = fl - drop ∧ t.raised fl = 10 ^ drop := by
  by_cases h : drop ≤ fl
  · obtain ⟨t, t1, t2, t3, t4, t5⟩ := tenth_ok (fl - drop) (by omega)
    refine ⟨t, by rw [← t1]; congr 1; omega, t2, t5, by rw [t3, Nat.sub_eq_zero_of_le h], t4, ?_⟩
    unfold Dc.raised
    rw [t3, t4, Nat.one_mul]
    congr 1
    omega
  · obtain ⟨k, hk⟩ : ∃ k, k = drop - fl := ⟨_, rfl⟩
    have e : shD (natD 1) ((drop : Int) - (fl : Int)) = mk ((10 ^ k : Nat) : Int) 0 := by
      unfold shD
      rw [if_pos (by show ((0 : Nat) : Int) < _; omega), natD_z]
      congr 1
      rw [show ((drop : Int) - (fl : Int) - ((natD 1).f.length : Int)).toNat = k by show ((drop : Int) - (fl : Int) - ((0 : Nat) : Int)).toNat = k; omega, Int.natCast_pow]
      simp
    rw [e]
    cases hmk : mk ((10 ^ k : Nat) : Int) 0 with
    | none =>
      exfalso
      rcases mk_none.1 hmk with h4 | h4
      · omega
      · rw [Int.natAbs_natCast] at h4
        have : 10 ^ k < 10 ^ 40 := Nat.pow_lt_pow_right (by omega) (by omega)
        omega
    | some t =>
      obtain ⟨z1, z2, z3, z4, z5⟩ := mk_some hmk
      rw [Int.natAbs_natCast] at z4
      refine ⟨t, rfl, z3, by rw [z5]; exact decide_eq_false (by omega), by rw [z4, hk], by omega, ?_⟩
      unfold Dc.raised
      rw [z4, z2, Nat.sub_zero, ← Nat.pow_add]
      congr 1
      omega
end Go.Proofs.Ytcdmanhhddcmcaa

namespace Go.Proofs.Ytcdmanhhddcmcaa
open Go.RowKit

def SgP (mode least most : Int) (n : Bool) (i f : ByteArray) (v : Value) : Prop := ∀ w : World, Calls Try.prog 27 #[.agg #[.bool n, .string i, .string f], .int .i64 mode, .int .i64 least, .int .i64 most] w fun e w' => e = .returned v ∧ Below w.heap.size w w'
def SgR (mode least most : Int) (n : Bool) (i f : ByteArray) (v : Value) : Prop := ∀ w : World, Calls Try.prog 28 #[.agg #[.bool n, .string i, .string f], .int .i64 mode, .int .i64 least, .int .i64 most] w fun e w' => e = .returned v ∧ Below w.heap.size w w'

theorem sig_le {d : Dc} (hd : d.Ok) : sigD d ≤ d.i.length + d.f.length := by
  have h1 := hd.one
  unfold sigD cntL
  split
  · rw [List.length_append]; omega
  · have := (digs_le (dVal (d.i ++ d.f)) (d.i ++ d.f).length (by rw [List.length_append]; omega)).2 (dVal_lt (hd.di.append hd.df))
    rw [List.length_append] at this
    exact this
theorem ro_zero (mode : Int) (neg : Bool) (u : Nat) : roQ mode neg 0 u = 0 := by
  unfold roQ
  simp
set_option maxHeartbeats 1000000 in
/-- What both sides tell of a decimal that may be. -/
theorem sig_ok (d : Dc) (mode : Int) (p m : Nat) (hd : d.Ok) (m1 : 1 ≤ mode) (m8 : mode ≤ 8) (hp : 1 ≤ p) (hpm : p ≤ m) (hm : m ≤ 40) :
    ∃ (yn : Bool) (yi yf : ByteArray) (c : Int), SgP mode p m d.neg (dStr d.i) (dStr d.f) (.tuple #[.agg #[.bool yn, .string yi, .string yf], .int .i64 c]) ∧ SgR mode p m d.neg (dStr d.i) (dStr d.f) (.tuple #[.agg #[.bool yn, .string yi, .string yf], .int .i64 c]) := by
  have dm := hd.most
  have d1 := hd.one
  have hmB : modeB mode = true := by unfold modeB; rw [decide_eq_true m1, decide_eq_true m8]; rfl
  have hE : modeE (okB d.neg (dStr d.i) (dStr d.f)) mode = 0 := by unfold modeE; rw [ok_of hd, hmB]; rfl
  have szi : (dStr d.i).size = d.i.length := dStr_size d.i
  have szf : (dStr d.f).size = d.f.length := dStr_size d.f
  have hb1 : (dStr d.i).size ≤ 140737488355328 := by omega
  have hb2 : (dStr d.f).size ≤ 140737488355328 := by omega
  have HC := fun wx => checkRange_any d.neg (dStr d.i) (dStr d.f) mode 1 p m wx hb1 hb2
  have hR : rangeE (okB d.neg (dStr d.i) (dStr d.f)) mode 1 p m = 0 := by unfold rangeE; rw [if_pos hE, if_neg (by omega)]
  rw [hR] at HC
  have HA := fun wx => asked_any d.neg (dStr d.i) (dStr d.f) mode wx hb1 hb2
  rw [hE] at HA
  have HS := fun wx => sig_any d wx hd
  have HN : ∀ wx : World, Calls Try.prog 61 #[.agg #[.bool d.neg, .string (dStr d.i), .string (dStr d.f)]] wx fun e w' => e = .returned (.int .i64 ((sigD d : Nat) : Int)) ∧ Below wx.heap.size wx w' := fun wx => count_any d.neg d.i d.f wx hd.di hd.df (by omega)
  have hsl := sig_le hd
  have hfl := f_lt hd
  have HD : Digs (d.i ++ d.f) := hd.di.append hd.df
  by_cases hlt : m < sigD d
  case neg =>
    obtain ⟨zn, zi, zf, c, b1, b2⟩ := sig_end d p hd hp (by omega)
    exact ⟨zn, zi, zf, c, fun w => sg_plain d.neg _ _ mode p m (sigD d : Nat) zn zi zf c w HC HS b2 (by omega) (by omega) (by omega) (by omega) (by omega) (by omega) (by omega) (by omega), fun w => rs_same d.neg d.i d.f mode m p (sigD d : Nat) zn zi zf c w HA HN b1 hp (by omega) (by omega) (by omega) dm hd.di hd.df (by omega) (by omega) (by omega) (by omega)⟩
  obtain ⟨dr, hdr⟩ : ∃ dr, dr = sigD d - m := ⟨_, rfl⟩
  obtain ⟨t, t1, t2, t3, t4, t5, t6⟩ := unit_ok dr d.f.length (by omega) (by omega) (by omega)
  have HPW : ∀ (wx : World) {kI : Int}, kI = ((sigD d : Nat) : Int) - (m : Int) - ((dStr d.f).size : Int) → Calls Try.prog 58 #[.int .i64 kI] wx fun r w' => r = .returned (.agg #[.bool t.neg, .string (dStr t.i), .string (dStr t.f)]) ∧ Below wx.heap.size wx w' := fun wx kI h => by
    have e : kI = (dr : Int) - (d.f.length : Int) := by omega
    rw [e]
    exact power_ok _ t wx (by omega) (by omega) t1
  have HM := fun wx => multiple_both mode d t wx m1 m8 hd t2 t3 (by rw [t4]; exact Nat.ne_of_gt (Nat.pow_pos (by omega)))
  have hmax : max d.f.length t.f.length = d.f.length := by omega
  have hX : d.raised d.f.length = d.num := by unfold Dc.raised; rw [Nat.sub_self, Nat.pow_zero, Nat.mul_one]
  rw [hmax, hX, t6] at HM
  have hro : roD mode d t = mkN d.neg (roQ mode d.neg d.num (10 ^ dr) * 10 ^ (dr - d.f.length)) (d.f.length - dr) := by
    unfold roD
    rw [hmax, hX, t6, t4, t5]
  rw [hro] at HM
  have HL := fun wx => rlead_any (d.i ++ d.f) wx HD (by rw [List.length_append]; omega)
  by_cases h0 : d.num = 0
  · obtain ⟨zn0, zi0, -⟩ := zero_form hd h0
    have hsg := zero_sig hd h0
    rw [h0, ro_zero, Nat.zero_mul, if_neg (fun c => c.2 (Nat.zero_mod _))] at HM
    have hd0 : digs 0 = [0] := by unfold digs; rw [digsR_small (by omega)]; rfl
    obtain ⟨y, hy⟩ : ∃ y, mkN d.neg 0 (d.f.length - dr) = some y := ⟨_, made_some rfl (by rw [padTo_len, hd0]; simp; omega)⟩
    obtain ⟨-, y2, y3, y4, -⟩ := mk_some hy
    have y0 : y.num = 0 := y4.trans (absN d.neg 0)
    obtain ⟨yn0, yi0, -⟩ := zero_form y3 y0
    have ysg := zero_sig y3 y0
    rw [hy] at HM
    obtain ⟨zn, zi, zf, c, b1, b2⟩ := sig_end y p y3 hp (by omega)
    refine ⟨zn, zi, zf, c, fun w => ?_, fun w => ?_⟩
    · exact sg_round d.neg _ _ mode p m (sigD d : Nat) t.neg (dStr t.i) (dStr t.f) y.neg (dStr y.i) (dStr y.f) (sigD y : Nat) zn zi zf c HC HS HPW HM (fun wx => sig_any y wx y3) b2 (by omega) (by omega) (by omega) (by omega) (by omega) (by omega) (by omega) (by omega) (by rw [dStr_size]; omega) (by omega) (by omega) w
    · refine rs_zero d.neg d.i d.f mode m p (sigD d : Nat) zn zi zf c w HA HN (fun wx X hX2 => ?_) (fun wx F hF => ?_) hp (by omega) (by omega) (by omega) dm hd.di hd.df (by omega) (by omega) (by omega) (by omega)
      · have := HL wx
        have e : dVal (d.i ++ d.f) = 0 := h0
        rw [e, hd0] at this
        rw [hX2, dStr_append]
        exact this
      · have e : F = dStr (endF y p) := by
          rw [hF]
          show dStr (endF d p) = _
          rw [zero_end hd h0 p hp, zero_end y3 y0 p hp]
        rw [zn0, zi0, ← yn0, ← yi0]
        exact b1 wx e
  -- not a nought
  have hcnt : sigD d = (digs d.num).length := by
    unfold sigD cntL
    rw [if_neg (show ¬ dVal (d.i ++ d.f) = 0 from h0)]
    rfl
  have hup : d.num < 10 ^ sigD d := (digs_le d.num (sigD d) (by omega)).1 (by omega)
  have hlow : 10 ^ (sigD d - 1) ≤ d.num := by
    by_cases c : d.num < 10 ^ (sigD d - 1)
    · have := (digs_le d.num (sigD d - 1) (by omega)).2 c
      omega
    · omega
  have hq1 : 1 ≤ d.num / 10 ^ dr := Nat.div_pos (Nat.le_trans (Nat.pow_le_pow_right (by omega) (by omega)) hlow) (Nat.pow_pos (by omega))
  have hq2 : d.num / 10 ^ dr < 10 ^ m := by
    refine Nat.div_lt_of_lt_mul ?_
    rw [← Nat.pow_add, show dr + m = sigD d by omega]
    exact hup
  have HLd : ∀ (wx : World) {X : ByteArray}, X = dStr d.i ++ dStr d.f → Calls Try.prog 62 #[.string X] wx fun r w' => r = .returned (.string (dStr (digs d.num))) ∧ wx = w' := fun wx X hX2 => by
    rw [hX2, dStr_append]
    exact HL wx
  have hqL : ((dStr (digs d.num)).toList == [48]) = false := by rw [zero_text, decide_eq_false h0]
  have hN : ∀ (wx : World) {nI : Int}, nI = ((sigD d : Nat) : Int) - (m : Int) → Calls Try.prog 64 #[.int .i64 nI] wx fun r w' => r = .returned (.string (dStr (List.replicate dr 0))) ∧ Below wx.heap.size wx w' := fun wx nI h => rnoughts_any dr nI wx (by omega) (by omega)
  have hT : ∀ (wx : World) {X Y : ByteArray}, X = dStr d.i ++ dStr d.f → Y = ⟨#[49]⟩ ++ dStr (List.replicate dr 0) → Calls Try.prog 63 #[.int .i64 mode, .bool d.neg, .string X, .string Y] wx fun r w' => r = .returned (if mode = 8 ∧ d.num % 10 ^ dr ≠ 0 then .tuple #[.string (dStr (digs (d.num / 10 ^ dr))), .int .i64 31] else .tuple #[.string (dStr (digs (roQ mode d.neg d.num (10 ^ dr)))), .int .i64 0]) ∧ Below wx.heap.size wx w' := by
    intro wx X Y hX hY
    rw [hX, hY, one_text, dStr_append, dStr_append]
    have := rturned_both mode d.neg (d.i ++ d.f) (10 ^ dr) wx m1 m8 (Nat.pow_pos (by omega)) HD (by rw [List.length_append]; omega) (by rw [digs_pow, List.length_cons, List.length_replicate]; omega)
    rw [digs_pow] at this
    exact this
  have hNs : (dStr (List.replicate dr 0)).size ≤ 1000 := by rw [dStr_size, List.length_replicate]; omega
  by_cases h8 : mode = 8 ∧ d.num % 10 ^ dr ≠ 0
  · rw [if_pos h8] at HM hT
    refine ⟨false, ⟨#[]⟩, ⟨#[]⟩, 31, fun w => ?_, fun w => ?_⟩
    · exact sg_err d.neg _ _ mode p m (sigD d : Nat) t.neg (dStr t.i) (dStr t.f) false ⟨#[]⟩ ⟨#[]⟩ 31 HC HS HPW HM (by decide) (by omega) (by omega) (by omega) (by omega) (by omega) (by omega) w
    · exact rs_err d.neg d.i d.f mode m p (sigD d : Nat) _ _ _ w HA HN HLd hN hT hp (by omega) (by omega) (by omega) dm hd.di hd.df (by omega) (by omega) (by omega) (by omega) hqL hNs
  rw [if_neg h8] at HM hT
  obtain ⟨Q, hQ⟩ : ∃ Q, Q = roQ mode d.neg d.num (10 ^ dr) := ⟨_, rfl⟩
  rw [← hQ] at HM hT
  have hQ1 : 1 ≤ Q := by rw [hQ]; unfold roQ; omega
  have hQ2 : Q ≤ 10 ^ m := by
    have : Q ≤ d.num / 10 ^ dr + 1 := by rw [hQ]; unfold roQ; split <;> omega
    omega
  obtain ⟨W, hW⟩ : ∃ W, W = Q * 10 ^ (dr - d.f.length) := ⟨_, rfl⟩
  rw [← hW] at HM
  have hWd : digs W = digs Q ++ List.replicate (dr - d.f.length) 0 := by rw [hW]; exact digs_times hQ1 _
  have hWl : (digs W).length ≤ m + 1 + (dr - d.f.length) := by
    rw [hWd, List.length_append, List.length_replicate]
    have : (digs Q).length ≤ m + 1 := (digs_le Q (m + 1) (by omega)).2 (Nat.lt_of_le_of_lt hQ2 (Nat.pow_lt_pow_right (by omega) (by omega)))
    omega
  obtain ⟨sc, hsc⟩ : ∃ sc, sc = d.f.length - dr := ⟨_, rfl⟩
  rw [← hsc] at HM
  obtain ⟨P, hP⟩ : ∃ P, P = padTo (sc + 1) (digs W) := ⟨_, rfl⟩
  have hPl : P.length = max (sc + 1) (digs W).length := by rw [hP, padTo_len]
  have hPd : Digs P := by rw [hP]; exact padTo_digs (digs_digs W)
  obtain ⟨yn, hyn⟩ : ∃ yn, yn = (d.neg && decide (W ≠ 0)) := ⟨_, rfl⟩
  obtain ⟨yi, hyi⟩ : ∃ yi, yi = digs (dVal (P.take (P.length - sc))) := ⟨_, rfl⟩
  obtain ⟨yf, hyf⟩ : ∃ yf, yf = P.drop (P.length - sc) := ⟨_, rfl⟩
  have hyil : yi.length ≤ P.length - sc := by
    have ht : (P.take (P.length - sc)).length = P.length - sc := by rw [List.length_take]; omega
    rw [hyi]
    refine (digs_le _ _ (by omega)).2 ?_
    have := dVal_lt (hPd.take (P.length - sc))
    rw [ht] at this
    exact this
  have hyfl : yf.length = sc := by rw [hyf, List.length_drop]; omega
  have hdyi : Digs yi := by rw [hyi]; exact digs_digs _
  have hdyf : Digs yf := by rw [hyf]; exact hPd.drop _
  have hWs : (digs W).length ≤ 41 := by omega
  have HMd : ∀ wx : World, Calls Try.prog 65 #[.bool d.neg, .string (dStr (digs W)), .int .i64 (sc : Int)] wx fun r w' => r = .returned (.agg #[.bool yn, .string (dStr yi), .string (dStr yf)]) ∧ Below wx.heap.size wx w' := by
    intro wx
    rw [hyn, hyi, hyf]
    cases hn : d.neg with
    | true => have := rmade_true (digs W) sc P wx hP (digs_digs W) (by omega) (by omega); rw [dVal_digs] at this; exact this
    | false => have := rmade_false (digs W) sc P wx hP (digs_digs W) (by omega) (by omega); rw [dVal_digs] at this; exact this
  have hQs : (dStr (digs Q)).size ≤ 1000 := by
    rw [dStr_size]
    rw [hWd, List.length_append] at hWl
    omega
  have HR : ∀ (zn : Bool) (zi zf : ByteArray) (c : Int), (∀ (wx : World) {F : ByteArray}, F = dStr (yf.take (cutS yi yf p yf.length) ++ List.replicate (p - cntL (yi ++ yf.take (cutS yi yf p yf.length))) 0) → Calls Try.prog 66 #[.agg #[.bool yn, .string (dStr yi), .string F]] wx fun r w' => r = .returned (.tuple #[.agg #[.bool zn, .string zi, .string zf], .int .i64 c]) ∧ Below wx.heap.size wx w') → SgR mode p m d.neg (dStr d.i) (dStr d.f) (.tuple #[.agg #[.bool zn, .string zi, .string zf], .int .i64 c]) := by
    intro zn zi zf c hb w
    by_cases hA : d.f.length ≤ dr
    · refine rs_roundA d.neg d.i d.f mode m p (sigD d : Nat) _ _ _ (dStr (List.replicate (dr - d.f.length) 0)) yn yi yf zn zi zf c w HA HN HLd hN hT (fun wx nI h => rnoughts_any (dr - d.f.length) nI wx (by omega) (by omega)) (fun wx X hX2 => ?_) hb hp (by omega) (by omega) (by omega) dm hd.di hd.df (by omega) (by omega) (by omega) (by omega) hqL hNs hdyi hdyf (by omega) (by omega) hQs (by rw [dStr_size, List.length_replicate]; omega)
      rw [hX2, dStr_append, ← hWd]
      have := HMd wx
      rw [show sc = 0 by omega] at this
      exact this
    · refine rs_roundB d.neg d.i d.f mode m p (sigD d : Nat) _ _ _ yn yi yf zn zi zf c w HA HN HLd hN hT (fun wx nI h => ?_) hb hp (by omega) (by omega) (by omega) dm hd.di hd.df (by omega) (by omega) (by omega) hqL hNs hdyi hdyf (by omega) (by omega)
      have e : nI = (sc : Int) := by omega
      have := HMd wx
      rw [hWd, show dr - d.f.length = 0 by omega, List.replicate_zero, List.append_nil] at this
      rw [e]
      exact this
  by_cases hbig : 40 < P.length
  · have hnone : mkN d.neg W sc = none := by rw [mkN_digs, ← hP, if_pos hbig]
    rw [hnone] at HM
    refine ⟨false, ⟨#[]⟩, ⟨#[]⟩, 3, fun w => ?_, HR _ _ _ _ (fun wx F hF => ?_)⟩
    · exact sg_err d.neg _ _ mode p m (sigD d : Nat) t.neg (dStr t.i) (dStr t.f) false ⟨#[]⟩ ⟨#[]⟩ 3 HC HS HPW HM (by decide) (by omega) (by omega) (by omega) (by omega) (by omega) (by omega) w
    · have hs0 : sc = 0 := by omega
      have hyiW : 40 < yi.length := by
        have e : P = digs W := by rw [hP, hs0]; exact padTo_same (digs_len W)
        rw [hyi, hs0, Nat.sub_zero, List.take_length, e, dVal_digs, ← e]
        exact hbig
      have hFl : F.size ≤ 1000 := by
        rw [hF, dStr_size, List.length_append, List.length_take, List.length_replicate]
        omega
      have := rbound_any yn (dStr yi) F wx (by rw [dStr_size]; omega)
      unfold boundV at this
      rw [if_pos (by rw [dStr_size]; omega)] at this
      exact this
  · have hms := made_some (neg := d.neg) hP hbig
    rw [← hyn, ← hyi, ← hyf] at hms
    rw [hms] at HM
    have y3 := (mk_some hms).2.2.1
    obtain ⟨zn, zi, zf, c, b1, b2⟩ := sig_end ⟨yn, yi, yf⟩ p y3 hp (by omega)
    refine ⟨zn, zi, zf, c, fun w => ?_, HR zn zi zf c b1⟩
    have hsy := sig_le y3
    have ym := y3.most
    have hsy2 : sigD ⟨yn, yi, yf⟩ ≤ 40 := Nat.le_trans hsy ym
    exact sg_round d.neg _ _ mode p m (sigD d : Nat) t.neg (dStr t.i) (dStr t.f) yn (dStr yi) (dStr yf) (sigD ⟨yn, yi, yf⟩ : Nat) zn zi zf c HC HS HPW HM (fun wx => sig_any ⟨yn, yi, yf⟩ wx y3) b2 (by omega) (by omega) (by omega) (by omega) (by omega) (by omega) (by omega) (by omega) (by rw [dStr_size]; omega) (by omega) (by omega) w
/-- Both sides tell the same of any decimal, mode and numbers of digits. -/
theorem sig_pair (n : Bool) (i f : ByteArray) (mode least most : Int) (hi : i.size ≤ 140737488355328) (hf : f.size ≤ 140737488355328) :
    ∃ (yn : Bool) (yi yf : ByteArray) (c : Int), SgP mode least most n i f (.tuple #[.agg #[.bool yn, .string yi, .string yf], .int .i64 c]) ∧ SgR mode least most n i f (.tuple #[.agg #[.bool yn, .string yi, .string yf], .int .i64 c]) := by
  have HC := fun wx => checkRange_any n i f mode 1 least most wx hi hf
  have HA := fun wx => asked_any n i f mode wx hi hf
  by_cases hE : modeE (okB n i f) mode = 0
  case neg =>
    rw [show rangeE (okB n i f) mode 1 least most = modeE (okB n i f) mode by unfold rangeE; rw [if_neg hE]] at HC
    exact ⟨_, _, _, _, fun w => sg_bad n i f mode least most _ w HC (bne_iff_ne.2 hE), fun w => rs_bad n i f mode least most _ w HA (bne_iff_ne.2 hE)⟩
  rw [hE] at HA
  by_cases hb : least < 1 ∨ most < least ∨ 40 < most
  · rw [show rangeE (okB n i f) mode 1 least most = 1 by unfold rangeE; rw [if_pos hE, if_pos (by omega)]] at HC
    refine ⟨_, _, _, _, fun w => sg_bad n i f mode least most 1 w HC (by decide), fun w => ?_⟩
    by_cases h0 : least < 1
    · exact rs_arg0 n i f mode least most w HA h0
    by_cases h1 : 40 < least
    · exact rs_arg1 n i f mode least most w HA h0 h1
    by_cases h2 : most < least
    · exact rs_arg2 n i f mode least most w HA h0 h1 h2
    exact rs_arg3 n i f mode least most w HA h0 h1 h2 (by omega)
  obtain ⟨p, rfl⟩ : ∃ p : Nat, least = p := ⟨least.toNat, by omega⟩
  obtain ⟨m, rfl⟩ : ∃ m : Nat, most = m := ⟨most.toNat, by omega⟩
  obtain ⟨hk, m1, m8⟩ := mode_of3 hE
  obtain ⟨d, hd, rfl, rfl, rfl⟩ := ok_cases hk
  exact sig_ok d mode p m hd m1 m8 (by omega) (by omega) (by omega)
end Go.Proofs.Ytcdmanhhddcmcaa

namespace Go.Proofs.Ytcdmanhhddcmcaa
open Go.RowKit
attribute [local go_sem ↓] Go.wp_at_zero Go.wp_at_succ
def Cells2 (w : World) (b : Nat) (x0 x1 : Value) : Prop := w.cell? ⟨b, 0, none⟩ = some x0 ∧ w.cell? ⟨b, 1, none⟩ = some x1
theorem Cells2.keep {W w' : World} {b : Nat} {x0 x1 : Value} (h : Cells2 W b x0 x1) (hb : Below W.heap.size W w') (hlt : b < W.heap.size) : Cells2 w' b x0 x1 :=
  ⟨(hb.cell (p := ⟨b, 0, none⟩) hlt).trans h.1, (hb.cell (p := ⟨b, 1, none⟩) hlt).trans h.2⟩
theorem two_new (w : World) (b0 b1 : Value) (t : TypeId) : Cells2 (w.alloc (.cells #[b0, b1] t)) w.heap.size b0 b1 := ⟨by simp, by simp⟩
theorem box_and_two (w : World) (a0 a1 a2 b0 b1 : Value) (t t2 : TypeId) :
    w.heap.size + 2 ≤ ((w.alloc (.cells #[a0, a1, a2] t)).alloc (.cells #[b0, b1] t2)).heap.size ∧ Cells3 ((w.alloc (.cells #[a0, a1, a2] t)).alloc (.cells #[b0, b1] t2)) w.heap.size a0 a1 a2 ∧ Cells2 ((w.alloc (.cells #[a0, a1, a2] t)).alloc (.cells #[b0, b1] t2)) (w.heap.size + 1) b0 b1 := by
  have h1 := one_box w a0 a1 a2 t
  refine ⟨by simp, h1.2.1.keep ((Below.refl _ _).alloc (Nat.le_refl _) _) (by simp), ?_⟩
  have hs : (w.alloc (.cells #[a0, a1, a2] t)).heap.size = w.heap.size + 1 := by simp
  rw [← hs]
  exact two_new _ _ _ _

set_option maxHeartbeats 4000000 in
set_option maxRecDepth 100000 in
theorem rdigs_core (an : Bool) (ai af : ByteArray) (mode least most : Int) (yn : Bool) (yi yf : ByteArray) (c : Int) (w : World) (H1 : (∀ wx : World, Calls Try.prog 27 #[(.agg #[.bool an, .string ai, .string af]), .int .i64 mode, .int .i64 least, .int .i64 most] wx fun e w' => e = .returned (.tuple #[(.agg #[.bool yn, .string yi, .string yf]), .int .i64 c]) ∧ Below wx.heap.size wx w')) (H2 : (∀ wx : World, Calls Try.prog 28 #[(.agg #[.bool an, .string ai, .string af]), .int .i64 mode, .int .i64 least, .int .i64 most] wx fun e w' => e = .returned (.tuple #[(.agg #[.bool yn, .string yi, .string yf]), .int .i64 c]) ∧ Below wx.heap.size wx w'))  :
    Calls Try.prog 10 #[(.agg #[.bool an, .string ai, .string af]), .int .i64 mode, .agg #[.int .i64 least, .int .i64 most]] w fun e w' => e = .returned (.bool true) ∧ Below w.heap.size w w' := by
  have D1 := Lib.hid H1
  have D2 := Lib.hid H2
  clear H1 H2
  have q1 : (yn == yn) = true := beq_self_eq_true _
  have q2 : (yi.toList == yi.toList) = true := beq_self_eq_true _
  have q3 : (yf.toList == yf.toList) = true := beq_self_eq_true _
  have q4 : (c == c) = true := beq_self_eq_true _
  have DW := Lib.hid rawake_any
  go_enter Try.func10, Try.ntmps10
  go_wp2_with fail
  obtain ⟨W0, hW0⟩ : ∃ W0, W0 = ((w.alloc (.cells #[.bool an, .string ai, .string af] 23)).alloc (.cells #[.int .i64 least, .int .i64 most] 51)) := ⟨_, rfl⟩
  obtain ⟨hB, hz, C0, N⟩ : Below w.heap.size w W0 ∧ w.heap.size + 2 ≤ W0.heap.size ∧ Cells3 W0 w.heap.size (.bool an) (.string ai) (.string af) ∧ Cells2 W0 (w.heap.size + 1) (.int .i64 least) (.int .i64 most) := by rw [hW0]; exact ⟨below_two w _ _, box_and_two w _ _ _ _ _ _ _⟩
  have zN : w.heap.size + 1 + 1 ≤ W0.heap.size := by omega
  have z0 : w.heap.size + 1 ≤ W0.heap.size := by omega
  rw [← hW0]
  have HB := Lib.hid hB
  clear hW0 hB hz
  (with_reducible refine (D1.out _).mono ?_)
  rintro e V1 ⟨rfl, hb⟩
  replace C0 := C0.keep hb (by omega)
  replace N := N.keep hb (by omega)
  replace z0 : w.heap.size + 1 ≤ V1.heap.size := by have := hb.size; omega
  replace zN : w.heap.size + 1 + 1 ≤ V1.heap.size := by have := hb.size; omega
  replace HB := Lib.hid (HB.out.trans (hb.mono HB.out.size))
  clear hb
  have ba : Below V1.heap.size V1 (V1.alloc (.cells #[.bool yn, .string yi, .string yf] 23)) := (Below.refl _ _).alloc (Nat.le_refl _) _
  replace C0 := C0.keep ba (by omega)
  replace N := N.keep ba (by omega)
  replace z0 : w.heap.size + 1 ≤ (V1.alloc (.cells #[.bool yn, .string yi, .string yf] 23)).heap.size := by have := ba.size; omega
  replace zN : w.heap.size + 1 + 1 ≤ (V1.alloc (.cells #[.bool yn, .string yi, .string yf] 23)).heap.size := by have := ba.size; omega
  replace HB := Lib.hid (HB.out.trans (ba.mono HB.out.size))
  clear ba
  have C1 : Cells3 (V1.alloc (.cells #[.bool yn, .string yi, .string yf] 23)) V1.heap.size (.bool yn) (.string yi) (.string yf) := (one_box V1 _ _ _ _).2.1
  have z1 : V1.heap.size + 1 ≤ (V1.alloc (.cells #[.bool yn, .string yi, .string yf] 23)).heap.size := by simp
  have o00 := C0.1
  have n0 := N.1
  have n1 := N.2
  have o10 := C1.1
  have o01 := C0.2.1
  have o02 := C0.2.2
  have o11 := C1.2.1
  have o12 := C1.2.2
  go_wp2_with fail
  clear o00 o01 o02 o10 o11 o12 n0 n1
  obtain ⟨V1x, hV1x⟩ : ∃ V1x, V1x = V1.alloc (.cells #[.bool yn, .string yi, .string yf] 23) := ⟨_, rfl⟩
  have HX := Lib.hid (show V1.heap.size + 1 = V1x.heap.size by rw [hV1x]; simp)
  rw [← hV1x]
  rw [← hV1x] at HB C0 z0 N zN C1 z1
  clear hV1x
  (with_reducible refine (D2.out _).mono ?_)
  rintro e V2 ⟨rfl, hb⟩
  replace C0 := C0.keep hb (by omega)
  replace N := N.keep hb (by omega)
  replace z0 : w.heap.size + 1 ≤ V2.heap.size := by have := hb.size; omega
  replace zN : w.heap.size + 1 + 1 ≤ V2.heap.size := by have := hb.size; omega
  replace C1 := C1.keep hb (by omega)
  replace z1 : V1.heap.size + 1 ≤ V2.heap.size := by have := hb.size; omega
  replace HB := Lib.hid (HB.out.trans (hb.mono HB.out.size))
  clear hb
  have ba : Below V2.heap.size V2 (V2.alloc (.cells #[.bool yn, .string yi, .string yf] 23)) := (Below.refl _ _).alloc (Nat.le_refl _) _
  replace C0 := C0.keep ba (by omega)
  replace N := N.keep ba (by omega)
  replace z0 : w.heap.size + 1 ≤ (V2.alloc (.cells #[.bool yn, .string yi, .string yf] 23)).heap.size := by have := ba.size; omega
  replace zN : w.heap.size + 1 + 1 ≤ (V2.alloc (.cells #[.bool yn, .string yi, .string yf] 23)).heap.size := by have := ba.size; omega
  replace C1 := C1.keep ba (by omega)
  replace z1 : V1.heap.size + 1 ≤ (V2.alloc (.cells #[.bool yn, .string yi, .string yf] 23)).heap.size := by have := ba.size; omega
  replace HB := Lib.hid (HB.out.trans (ba.mono HB.out.size))
  clear ba
  have C2 : Cells3 (V2.alloc (.cells #[.bool yn, .string yi, .string yf] 23)) V2.heap.size (.bool yn) (.string yi) (.string yf) := (one_box V2 _ _ _ _).2.1
  have z2 : V2.heap.size + 1 ≤ (V2.alloc (.cells #[.bool yn, .string yi, .string yf] 23)).heap.size := by simp
  have o00 := C0.1
  have n0 := N.1
  have n1 := N.2
  have o10 := C1.1
  have o20 := C2.1
  have o01 := C0.2.1
  have o02 := C0.2.2
  have o11 := C1.2.1
  have o12 := C1.2.2
  have o21 := C2.2.1
  have o22 := C2.2.2
  go_wp2_with fail
  clear o00 o01 o02 o10 o11 o12 o20 o21 o22 n0 n1
  obtain ⟨V2x, hV2x⟩ : ∃ V2x, V2x = V2.alloc (.cells #[.bool yn, .string yi, .string yf] 23) := ⟨_, rfl⟩
  have HX := Lib.hid (show V2.heap.size + 1 = V2x.heap.size by rw [hV2x]; simp)
  rw [← hV2x]
  rw [← hV2x] at HB C0 z0 N zN C1 z1 C2 z2
  clear hV2x
  (with_reducible refine (DW.out _).mono ?_)
  rintro e V3 ⟨rfl, hb⟩
  replace C0 := C0.keep hb (by omega)
  replace N := N.keep hb (by omega)
  replace z0 : w.heap.size + 1 ≤ V3.heap.size := by have := hb.size; omega
  replace zN : w.heap.size + 1 + 1 ≤ V3.heap.size := by have := hb.size; omega
  replace C1 := C1.keep hb (by omega)
  replace z1 : V1.heap.size + 1 ≤ V3.heap.size := by have := hb.size; omega
  replace C2 := C2.keep hb (by omega)
  replace z2 : V2.heap.size + 1 ≤ V3.heap.size := by have := hb.size; omega
  replace HB := Lib.hid (HB.out.trans (hb.mono HB.out.size))
  clear hb
  have o00 := C0.1
  have n0 := N.1
  have n1 := N.2
  have o10 := C1.1
  have o20 := C2.1
  have o01 := C0.2.1
  have o02 := C0.2.2
  have o11 := C1.2.1
  have o12 := C1.2.2
  have o21 := C2.2.1
  have o22 := C2.2.2
  go_wp2
  go_ret
  exact ⟨rfl, HB.out⟩

theorem rdigs_walk (n : Bool) (i f : ByteArray) (mode : Int) (least most : Int) (w : World) (hi : i.size ≤ 140737488355328) (hf : f.size ≤ 140737488355328) (_h1 : -9223372036854775808 ≤ mode) (_h2 : mode ≤ 9223372036854775807) :
    Calls Try.prog 10 #[.agg #[.bool n, .string i, .string f], .int .i64 mode, .agg #[.int .i64 least, .int .i64 most]] w fun e w' => e = .returned (.bool true) ∧ Below w.heap.size w w' := by
  obtain ⟨yn, yi, yf, c, h1, h2⟩ := sig_pair n i f mode least most hi hf
  exact rdigs_core n i f mode least most yn yi yf c w h1 h2
end Go.Proofs.Ytcdmanhhddcmcaa
