/- The other sign; OperandSame by cases. -/
import Derived.Test.YtcdmanhhddcmcaaLawSame
namespace Go.Proofs.Ytcdmanhhddcmcaa
open Go.RowKit
/-- The same with the other sign; nought has none. -/
def negX (d : Dc) : Dc := ⟨!d.neg && decide (d.num ≠ 0), d.i, d.f⟩
theorem negX_ok {d : Dc} (h : d.Ok) : (negX d).Ok := ⟨h.di, h.df, h.one, h.most, h.lead, fun e => by
  have e2 : (!d.neg && decide (d.num ≠ 0)) = true := e
  rw [Bool.and_eq_true] at e2
  exact of_decide_eq_true e2.2⟩
theorem negX_z {d : Dc} (h : d.Ok) : (negX d).z = -d.z := by
  have hs := h.sign
  have hnum : (negX d).num = d.num := rfl
  unfold Dc.z
  rw [hnum]
  show (if (!d.neg && decide (d.num ≠ 0)) = true then -(d.num : Int) else d.num) = _
  cases hn : d.neg with
  | true => simp
  | false =>
    by_cases h0 : d.num = 0
    · simp [h0]
    · simp [h0]
theorem dcZero_ok : dcZero.Ok := ⟨fun d hd => by simp [dcZero] at hd; omega, fun d hd => by simp [dcZero] at hd, by decide, by decide, .inl rfl, fun e => by cases e⟩
theorem sub_zero {d : Dc} (h : d.Ok) : subD dcZero d = some (negX d) := by
  unfold subD
  have e1 : max dcZero.f.length d.f.length = d.f.length := by show max 0 _ = _; omega
  have e2 : dcZero.up d.f.length = 0 := (up_zero _).2 rfl
  rw [e1, e2, up_same, Int.zero_sub, ← negX_z h]
  exact mk_ok (negX_ok h)
theorem mk_neg {a : Int} {s : Nat} : mk (-a) s = (mk a s).map negX := by
  cases h : mk a s with
  | none =>
    rw [mk_none] at h
    show mk (-a) s = none
    rw [mk_none, Int.natAbs_neg]
    exact h
  | some x =>
    obtain ⟨hz, hf, hx, -, -⟩ := mk_some h
    show mk (-a) s = some (negX x)
    rw [← hz, ← hf, ← negX_z hx]
    exact mk_ok (negX_ok hx)
theorem sh_neg {d : Dc} (h : d.Ok) (k : Int) : shD (negX d) k = (shD d k).map negX := by
  unfold shD
  rw [negX_z h]
  show (if (d.f.length : Int) < k then _ else _) = _
  split
  · rw [Int.neg_mul, mk_neg]; rfl
  · exact mk_neg
theorem same_walk (n : Bool) (i f : ByteArray) (k : Int) (w : World) (h1 : i.size ≤ 140737488355328) (h2 : f.size ≤ 140737488355328) (_h3 : -9223372036854775808 ≤ k) (_h4 : k ≤ 9223372036854775807) :
    Calls Try.prog 4 #[.agg #[.bool n, .string i, .string f], .int .i64 k] w fun e w' => e = .returned (.bool true) ∧ Below w.heap.size w w' := by
  cases hb : okB n i f with
  | false =>
    have HS : ∀ wx : World, Calls Try.prog 19 #[.agg #[.bool false, .string ⟨#[48]⟩, .string ⟨#[]⟩], .agg #[.bool n, .string i, .string f]] wx fun e w' => e = .returned (.tuple #[.agg #[.bool false, .string ⟨#[]⟩, .string ⟨#[]⟩], .int .i64 20]) ∧ Below wx.heap.size wx w' := fun wx => sub_bad2 false n ⟨#[48]⟩ ⟨#[]⟩ i f wx (by show 1 ≤ _; omega) (by show 0 ≤ _; omega) h1 h2 (ok_of dcZero_ok) hb
    exact same_bad (H1 := fun wx => of_bad n i f k wx h1 h2 hb) (H2 := HS) (hc := rfl) (w := w) (n := k)
  | true =>
    obtain ⟨d, hd, rfl, rfl, rfl⟩ := ok_cases hb
    have HS : ∀ wx : World, Calls Try.prog 19 #[.agg #[.bool false, .string ⟨#[48]⟩, .string ⟨#[]⟩], .agg #[.bool d.neg, .string (dStr d.i), .string (dStr d.f)]] wx fun e w' => e = .returned (.tuple #[.agg #[.bool (negX d).neg, .string (dStr (negX d).i), .string (dStr (negX d).f)], .int .i64 0]) ∧ Below wx.heap.size wx w' := fun wx => sub_ok dcZero d wx (some (negX d)) (sub_zero hd) dcZero_ok hd
    have hm := negX_ok hd
    by_cases hk : 0 ≤ k ∧ k ≤ 40
    · cases ho : shD d k with
      | none =>
        have ho2 : shD (negX d) k = none := by rw [sh_neg hd, ho]; rfl
        exact same_err (H1 := fun wx => of_none d k wx hd hk.1 hk.2 ho) (H2 := HS) (H3 := fun wx => of_none (negX d) k wx hm hk.1 hk.2 ho2) (hc := rfl) (w := w) (n := k)
      | some x =>
        have hx := sh_ok ho
        have ho2 : shD (negX d) k = some (negX x) := by rw [sh_neg hd, ho]; rfl
        have A6 := of_told hm (negX_ok hx) hk.1 hk.2 ho2
        exact same_ok (H1 := of_told hd hx hk.1 hk.2 ho) (H2 := shift_told hd hk.1 hk.2 ho) (H3 := of_told hx hx (by omega) (by omega) (shift_zero hx)) (H4 := fun wx => ocheck_ok (absX x) ⟨false, x.i, cutF x⟩ k wx (absX_ok hx) rfl hk.1 hk.2 (absX_trim x)) (H5 := HS) (H6 := A6) (w := w) (n := k)
    · exact same_err (H1 := fun wx => of_arg d k wx hd hk) (H2 := HS) (H3 := fun wx => of_arg (negX d) k wx hm hk) (hc := rfl) (w := w) (n := k)
end Go.Proofs.Ytcdmanhhddcmcaa
