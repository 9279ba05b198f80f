/- Small functions of rule: operands, moduli, spans, exponents. -/
import Derived.Test.YtmggdnnffdaffaaDoorRuA
namespace Go.Proofs.YtmggdnnffdaffaaDoor
open Go.RowKit
attribute [local go_sem ↓] Go.wp_at_zero Go.wp_at_succ

/-- Is a text an operand's letter? -/
def opB (s : ByteArray) : Bool := [110, 105, 118, 119, 102, 116, 99, 101].any fun c => s.toList == [c]
theorem one_ne {s : ByteArray} {c : UInt8} (h : ¬ s = ⟨#[c]⟩) : (s.toList == [c]) = false := by
  have := toList_ne h
  rwa [Lib.toList_data (⟨#[c]⟩ : ByteArray)] at this
theorem one_eq (c : UInt8) : ((⟨#[c]⟩ : ByteArray).toList == [c]) = true := by
  rw [Lib.toList_data]
  simp
set_option maxHeartbeats 2000000 in
set_option maxRecDepth 100000 in
theorem isOperand_any (s : ByteArray) (w : World) : Calls Tryd.prog 59 #[.string s] w fun e w' => e = .returned (.bool (opB s)) ∧ w = w' := by
  by_cases h0 : s = ⟨#[110]⟩
  · subst h0
    have HR : Hid (opB ⟨#[110]⟩ = true) := List.any_eq_true.2 ⟨110, by decide, one_eq 110⟩
    rw [HR.out]
    clear HR
    go_enter Tryd.func59, Tryd.ntmps59
    go_wp2
    go_ret
    exact ⟨rfl, rfl⟩
  by_cases h1 : s = ⟨#[105]⟩
  · subst h1
    have HR : Hid (opB ⟨#[105]⟩ = true) := List.any_eq_true.2 ⟨105, by decide, one_eq 105⟩
    rw [HR.out]
    clear HR
    go_enter Tryd.func59, Tryd.ntmps59
    go_wp2
    go_ret
    exact ⟨rfl, rfl⟩
  by_cases h2 : s = ⟨#[118]⟩
  · subst h2
    have HR : Hid (opB ⟨#[118]⟩ = true) := List.any_eq_true.2 ⟨118, by decide, one_eq 118⟩
    rw [HR.out]
    clear HR
    go_enter Tryd.func59, Tryd.ntmps59
    go_wp2
    go_ret
    exact ⟨rfl, rfl⟩
  by_cases h3 : s = ⟨#[119]⟩
  · subst h3
    have HR : Hid (opB ⟨#[119]⟩ = true) := List.any_eq_true.2 ⟨119, by decide, one_eq 119⟩
    rw [HR.out]
    clear HR
    go_enter Tryd.func59, Tryd.ntmps59
    go_wp2
    go_ret
    exact ⟨rfl, rfl⟩
  by_cases h4 : s = ⟨#[102]⟩
  · subst h4
    have HR : Hid (opB ⟨#[102]⟩ = true) := List.any_eq_true.2 ⟨102, by decide, one_eq 102⟩
    rw [HR.out]
    clear HR
    go_enter Tryd.func59, Tryd.ntmps59
    go_wp2
    go_ret
    exact ⟨rfl, rfl⟩
  by_cases h5 : s = ⟨#[116]⟩
  · subst h5
    have HR : Hid (opB ⟨#[116]⟩ = true) := List.any_eq_true.2 ⟨116, by decide, one_eq 116⟩
    rw [HR.out]
    clear HR
    go_enter Tryd.func59, Tryd.ntmps59
    go_wp2
    go_ret
    exact ⟨rfl, rfl⟩
  by_cases h6 : s = ⟨#[99]⟩
  · subst h6
    have HR : Hid (opB ⟨#[99]⟩ = true) := List.any_eq_true.2 ⟨99, by decide, one_eq 99⟩
    rw [HR.out]
    clear HR
    go_enter Tryd.func59, Tryd.ntmps59
    go_wp2
    go_ret
    exact ⟨rfl, rfl⟩
  by_cases h7 : s = ⟨#[101]⟩
  · subst h7
    have HR : Hid (opB ⟨#[101]⟩ = true) := List.any_eq_true.2 ⟨101, by decide, one_eq 101⟩
    rw [HR.out]
    clear HR
    go_enter Tryd.func59, Tryd.ntmps59
    go_wp2
    go_ret
    exact ⟨rfl, rfl⟩
  have q0 : (s.toList == [110]) = false := one_ne h0
  have q1 : (s.toList == [105]) = false := one_ne h1
  have q2 : (s.toList == [118]) = false := one_ne h2
  have q3 : (s.toList == [119]) = false := one_ne h3
  have q4 : (s.toList == [102]) = false := one_ne h4
  have q5 : (s.toList == [116]) = false := one_ne h5
  have q6 : (s.toList == [99]) = false := one_ne h6
  have q7 : (s.toList == [101]) = false := one_ne h7
  have HR : Hid (opB s = false) := by show _ = _; unfold opB; simp only [List.any_cons, List.any_nil, q0, q1, q2, q3, q4, q5, q6, q7, Bool.or_false]
  rw [HR.out]
  clear HR h0 h1 h2 h3 h4 h5 h6 h7
  go_enter Tryd.func59, Tryd.ntmps59
  go_wp2
  go_ret
  exact ⟨rfl, rfl⟩
def moB (s : ByteArray) : Bool := nuB s && !(s.toList == [48])
set_option maxHeartbeats 2000000 in
set_option maxRecDepth 100000 in
theorem isModulus_any (s : ByteArray) (w : World) (h : s.size ≤ 140737488355328) : Calls Tryd.prog 60 #[.string s] w fun e w' => e = .returned (.bool (moB s)) ∧ Below w.heap.size w w' := by
  have D0 := fun wx => isNumber_any s wx h
  unfold moB
  clear h
  cases e1 : nuB s <;> cases e2 : (s.toList == [48])
  all_goals
    rw [e1] at D0
    have D := Lib.hid D0
    clear D0 e1
    go_enter Tryd.func60, Tryd.ntmps60
    go_wp2_with fail
    (with_reducible refine (D.out _).mono ?_)
    rintro e W1 ⟨rfl, hb⟩
    have HB := Lib.hid hb
    clear hb
    go_wp2
    go_ret
    exact ⟨rfl, HB.out⟩
set_option maxHeartbeats 2000000 in
set_option maxRecDepth 100000 in
theorem isSpan_any (lo hi : ByteArray) (w : World) (h1 : lo.size ≤ 140737488355328) (h2 : hi.size ≤ 140737488355328) : Calls Tryd.prog 61 #[.string lo, .string hi] w fun e w' => e = .returned (.bool (spanB (lo, hi))) ∧ Below w.heap.size w w' := by
  have W1 := Lib.hid (fun wx => rwhole_any lo wx)
  have W2 := Lib.hid (fun wx => rwhole_any hi wx)
  have key : ∀ (c e : Int) (b : Bool), CmpP (lo, hi) c e → ((e == 0) = true ∧ decide (c ≤ 0) = b ∨ (e == 0) = false ∧ b = false) →
      Calls Tryd.prog 61 #[.string lo, .string hi] w fun e w' => e = .returned (.bool b) ∧ Below w.heap.size w w' := by
    intro c e b H hq
    unfold CmpP at H
    have D := Lib.hid H
    clear H
    rcases hq with ⟨q1, q2⟩ | ⟨q1, rfl⟩
    all_goals
      go_enter Tryd.func61, Tryd.ntmps61
      go_wp2_with fail
      (with_reducible refine (W1.out _).mono ?_)
      rintro e1 V1 ⟨rfl, hb⟩
      have HB := Lib.hid hb
      clear hb
      go_wp2_with fail
      (with_reducible refine (W2.out _).mono ?_)
      rintro e2 V2 ⟨rfl, hb⟩
      have HB2 := Lib.hid (HB.out.trans (hb.mono HB.out.size))
      clear hb
      go_wp2_with fail
      (with_reducible refine (D.out _).mono ?_)
      rintro e3 V3 ⟨rfl, hb⟩
      have HB3 := Lib.hid (HB2.out.trans (hb.mono HB2.out.size))
      clear hb
      go_wp2
      go_ret
      first
        | exact ⟨rfl, HB3.out⟩
        | exact ⟨ret_bool (by rw [← q2]), HB3.out⟩
  rcases span_cmp (lo, hi) h1 h2 with ⟨hb, c, hc, H⟩ | ⟨hb, H | ⟨c, hc, H⟩⟩
  · rw [hb]; exact key c 0 true H (.inl ⟨rfl, decide_eq_true hc⟩)
  · rw [hb]; exact key 0 20 false H (.inr ⟨rfl, rfl⟩)
  · rw [hb]; exact key c 0 false H (.inl ⟨rfl, decide_eq_false (by omega)⟩)
end Go.Proofs.YtmggdnnffdaffaaDoor
