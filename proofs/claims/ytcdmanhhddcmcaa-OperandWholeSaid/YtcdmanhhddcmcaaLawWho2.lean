/- OperandWhole by cases. -/
import Derived.Test.YtcdmanhhddcmcaaLawWho
namespace Go.Proofs.Ytcdmanhhddcmcaa
open Go.RowKit
def oneD : Dc := ⟨false, [1], []⟩
def zeroD : Dc := ⟨false, [0], []⟩
theorem oneD_ok : oneD.Ok := ⟨fun d hd => by simp [oneD] at hd; omega, fun d hd => by simp [oneD] at hd, by decide, by decide, .inl rfl, fun e => by cases e⟩
theorem zeroD_ok : zeroD.Ok := ⟨fun d hd => by simp [zeroD] at hd; omega, fun d hd => by simp [zeroD] at hd, by decide, by decide, .inl rfl, fun e => by cases e⟩
theorem cut_trim {d : Dc} (h : d.Ok) : trimD ⟨false, d.i, cutF d⟩ = ⟨false, d.i, cutF d⟩ := by
  obtain ⟨a1, a2, a3⟩ := trim_facts (absX_ok h)
  rw [absX_trim] at a1 a2 a3
  obtain ⟨b1, b2, b3⟩ := trim_facts a1
  exact trimmed_same b1 a1 b3 a3 b2
theorem oneD_up (s : Nat) : oneD.up s = 10 ^ s := by
  unfold Dc.up
  have e1 : oneD.z = 1 := rfl
  have e2 : oneD.f.length = 0 := rfl
  rw [e1, e2, Int.one_mul, Nat.sub_zero]
/-- What is left of a division by one. -/
theorem rem_one {t r : Dc} (h : remD t oneD = some r) : r.Ok ∧ r.f.length = t.f.length ∧ (t.f.length = 0 → r.z = 0) := by
  unfold remD at h
  have e1 : max t.f.length oneD.f.length = t.f.length := by show max _ 0 = _; omega
  rw [e1, oneD_up] at h
  obtain ⟨hz, hf, ho, -, -⟩ := mk_some h
  refine ⟨ho, hf, fun h0 => ?_⟩
  rw [hz, h0, Int.pow_zero, Int.tmod_one]
theorem cmp_z0 {a b : Dc} (ha : a.z = 0) (hb : b.z = 0) : cmpD a b = 0 := by
  unfold cmpD
  rw [(up_zero _).2 ha, (up_zero _).2 hb]
  rfl

theorem in_whole {d : Dc} (hd : d.Ok) : ∃ b : Bool, (b = true ↔ (cutF d).length = 0) ∧ ∀ (g : Nat) (wx : World), Spn wx g [(⟨#[48]⟩, ⟨#[48]⟩)] → g < wx.heap.size → Calls Try.prog 23 #[.agg #[.bool false, .string (dStr d.i), .string (dStr (cutF d)), .string (dStr d.i), .int .i64 d.f.length, .int .i64 (cutF d).length, .string (dStr (intg d.f)), .string (dStr (intg (cutF d))), .int .i64 0], .agg #[.string ⟨#[110]⟩, .string ⟨#[49]⟩, .bool false, .bool false, .slice (some ⟨g, 0, none⟩) 1 1]] wx fun e w' => e = .returned (.tuple #[.bool b, .int .i64 0]) ∧ Below wx.heap.size wx w' := by
  have hto : (⟨false, d.i, cutF d⟩ : Dc).Ok := by have := (trim_facts (absX_ok hd)).1; rw [absX_trim] at this; exact this
  have HG : ∀ wx : World, Calls Try.prog 44 #[.agg #[.bool false, .string (dStr d.i), .string (dStr (cutF d)), .string (dStr d.i), .int .i64 d.f.length, .int .i64 (cutF d).length, .string (dStr (intg d.f)), .string (dStr (intg (cutF d))), .int .i64 0], .string ⟨#[110]⟩] wx fun e w' => e = .returned (.tuple #[.agg #[.bool false, .string (dStr d.i), .string (dStr (cutF d))], .int .i64 0]) ∧ Below wx.heap.size wx w' := by
    refine fun wx => get_n (H1 := fun wx => ocheck_ok (absX d) ⟨false, d.i, cutF d⟩ 0 wx (absX_ok hd) rfl (by omega) (by omega) (absX_trim d)) (H2 := fun wx => ?_) (w := wx) (oI := _) (oV := _) (oW := _) (oG := _) (oT := _) (oX := _)
    have := trim_ok ⟨false, d.i, cutF d⟩ wx hto
    rw [cut_trim hd] at this
    exact this
  obtain ⟨r, hr⟩ := rem_room hto oneD_ok (by decide)
  obtain ⟨hro, hrf, hrz⟩ := rem_one hr
  have HM : ∀ wx : World, Calls Try.prog 24 #[.agg #[.bool false, .string (dStr d.i), .string (dStr (cutF d)), .string (dStr d.i), .int .i64 d.f.length, .int .i64 (cutF d).length, .string (dStr (intg d.f)), .string (dStr (intg (cutF d))), .int .i64 0], .string ⟨#[110]⟩, .string ⟨#[49]⟩] wx fun e w' => e = .returned (.tuple #[.agg #[.bool r.neg, .string (dStr r.i), .string (dStr r.f)], .int .i64 0]) ∧ Below wx.heap.size wx w' := fun wx => mod_rem (H1 := HG) (H2 := fun wx => rem_ok ⟨false, d.i, cutF d⟩ oneD wx (some r) hr hto oneD_ok (by decide)) (hby := by decide) (w := wx)
  have HL : ∀ (g : Nat) (wx : World), Spn wx g [(⟨#[48]⟩, ⟨#[48]⟩)] → g < wx.heap.size → Calls Try.prog 50 #[.slice (some ⟨g, 0, none⟩) 1 1] wx fun e w' => e = .returned (.bool true) ∧ Below wx.heap.size wx w' := by
    intro g wx hs hg
    refine isList_yes _ g 1 1 wx hs hg rfl (by omega) (by omega) fun k hk => ⟨cmpD zeroD zeroD, ?_, fun wx => ?_⟩
    · rw [cmp_z0 rfl rfl]; omega
    · obtain rfl : k = 0 := by omega
      exact compare_ok zeroD zeroD wx zeroD_ok zeroD_ok
  by_cases h0 : (cutF d).length = 0
  · refine ⟨true, ⟨fun _ => h0, fun _ => rfl⟩, fun g wx hs hg => ?_⟩
    have hrn : r.f = [] := List.eq_nil_of_length_eq_zero (by rw [hrf]; exact h0)
    have hz := hrz h0
    have hc1 : decide (cmpD zeroD r ≤ 0) = true := by rw [cmp_z0 rfl hz]; rfl
    have hc2 : decide (cmpD r zeroD ≤ 0) = true := by rw [cmp_z0 hz rfl]; rfl
    have A1 := fun wx => isAtMost_any zeroD r wx zeroD_ok hro
    have A2 := fun wx => isAtMost_any r zeroD wx hro zeroD_ok
    rw [hc1, hrn] at A1
    rw [hc2, hrn] at A2
    rw [hrn] at HM
    refine in_go (b := true) (rN := false) (H1 := HM) (H2 := fun wv hb => HL g wv (hs.keep hb hg) (by have := hb.size; omega)) (H3 := fun wv hb => ?_) (w := wx)
    have := isIn_whole r.neg (dStr r.i) ⟨#[110]⟩ ⟨#[49]⟩ false [(⟨#[48]⟩, ⟨#[48]⟩)] g 1 1 (fun _ => true) (fun _ => true) wv (hs.keep hb hg) (by have := hb.size; omega) rfl (by omega)
      (fun k hk => by obtain rfl : k = 0 := by omega
                      exact A1)
      (fun k hk => by obtain rfl : k = 0 := by omega
                      exact A2)
    rw [decide_eq_true (show ∃ k, k < 1 ∧ true = true ∧ true = true from ⟨0, by omega, rfl, rfl⟩)] at this
    exact this
  · refine ⟨false, ⟨fun h => (nomatch h), fun h => absurd h h0⟩, fun g wx hs hg => ?_⟩
    exact in_go (b := false) (rN := false) (H1 := HM) (H2 := fun wv hb => HL g wv (hs.keep hb hg) (by have := hb.size; omega)) (H3 := fun wv hb => isIn_frac _ _ _ _ _ _ _ wv (by rw [dStr_size, hrf]; exact h0)) (w := wx)

theorem who_walk (n : Bool) (i f : ByteArray) (w : World) (h1 : i.size ≤ 140737488355328) (h2 : f.size ≤ 140737488355328) :
    Calls Try.prog 8 #[.agg #[.bool n, .string i, .string f]] w fun e w' => e = .returned (.bool true) ∧ Below w.heap.size w w' := by
  cases hb : okB n i f with
  | false =>
    refine who_err (H1 := fun wx => of_bad n i f 0 wx h1 h2 hb) (H2 := fun wx => ?_) (w := w)
    have := check_any n i f wx h1 h2
    rw [ck_bad hb] at this
    exact this
  | true =>
    obtain ⟨d, hd, rfl, rfl, rfl⟩ := ok_cases hb
    have A1 := of_told hd hd (by omega) (by omega) (shift_zero hd)
    obtain ⟨b, hb2, HI⟩ := in_whole hd
    by_cases h0 : (cutF d).length = 0
    · obtain rfl := hb2.2 h0
      rw [h0] at A1 HI
      exact who_yes (H1 := A1) (H2 := HI) (w := w)
    · obtain rfl : b = false := by
        cases b with
        | false => rfl
        | true => exact absurd (hb2.1 rfl) h0
      exact who_no (H1 := A1) (H2 := HI) (w := w) (hW := h0)
end Go.Proofs.Ytcdmanhhddcmcaa
