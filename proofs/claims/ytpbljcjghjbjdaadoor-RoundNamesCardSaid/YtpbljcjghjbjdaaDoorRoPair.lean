/- Places of both sides. -/
import Derived.Test.YtpbljcjghjbjdaaDoorRoPl
import Derived.Test.YtpbljcjghjbjdaaDoorRrPl
namespace Go.Proofs.YtpbljcjghjbjdaaDoor
open Go.RowKit

/-- Digits without noughts ahead are their number's. -/
theorem led {l : List Nat} (h : Digs l) (hl : l.length = 1 ∨ ∃ x, l.head? = some x ∧ x ≠ 0) : digs (dVal l) = l := by
  rw [← dLead_digs l h]
  cases l with
  | nil => rcases hl with h | ⟨x, h, -⟩ <;> simp at h
  | cons a t =>
    cases t with
    | nil => rfl
    | cons b t =>
      rcases hl with h | ⟨x, h1, h2⟩
      · simp at h
      · simp at h1
        subst h1
        exact if_neg h2
theorem digs_pow (k : Nat) : digs (10 ^ k) = 1 :: List.replicate k 0 := by
  have h := led (l := 1 :: List.replicate k 0) (Digs.cons (by omega) (Digs.zeros k)) (.inr ⟨1, rfl, by omega⟩)
  rw [dVal_cons, dVal_zeros, List.length_replicate, Nat.one_mul, Nat.add_zero] at h
  exact h
/-- One, so many places behind the point. -/
theorem tenth_ok (m : Nat) (h : m ≤ 39) : ∃ t, shD (natD 1) (-(m : Int)) = some t ∧ t.Ok ∧ t.num = 1 ∧ t.f.length = m ∧ t.neg = false := by
  have e : shD (natD 1) (-(m : Int)) = mk 1 m := by
    unfold shD
    rw [if_neg (by show ¬ ((0 : Nat) : Int) < _; omega), natD_z]
    congr 1
    show (((0 : Nat) : Int) - -(m : Int)).toNat = m
    omega
  rw [e]
  cases h1 : mk 1 m with
  | none =>
    exfalso
    rcases mk_none.1 h1 with h2 | h2
    · omega
    · exact absurd h2 (by decide)
  | some t =>
    obtain ⟨z1, z2, z3, z4, z5⟩ := mk_some h1
    exact ⟨t, rfl, z3, z4, z2, z5⟩
/-- What is made of so many units, if there is room. -/
theorem made_some {neg : Bool} {Q p : Nat} {P : List Nat} (hP : P = padTo (p + 1) (digs Q)) (h : ¬ 40 < P.length) :
    mkN neg Q p = some ⟨neg && decide (Q ≠ 0), digs (dVal (P.take (P.length - p))), P.drop (P.length - p)⟩ := by
  have h1 : mkN neg Q p = some ⟨neg && decide (Q ≠ 0), P.take (P.length - p), P.drop (P.length - p)⟩ := by
    rw [mkN_digs, ← hP, if_neg h]
  have h2 := (mk_some h1).2.2.1
  rw [h1, led h2.di h2.lead]
theorem pad_self {d : Dc} (h : d.Ok) : padD d 0 = some d := by
  unfold padD mkN
  rw [Nat.max_zero]
  have e : d.raised d.f.length = d.num := by unfold Dc.raised; rw [Nat.sub_self, Nat.pow_zero, Nat.mul_one]
  rw [e]
  exact mk_ok h

def PlP (mode most : Int) (n : Bool) (i f : ByteArray) (v : Value) : Prop := ∀ w : World, Calls Tryd.prog 53 #[.agg #[.bool n, .string i, .string f], .int .i64 mode, .int .i64 most] w fun e w' => e = .returned v ∧ Below w.heap.size w w'
def zeroV (c : Int) : Value := .tuple #[.agg #[.bool false, .string ⟨#[]⟩, .string ⟨#[]⟩], .int .i64 c]

end Go.Proofs.YtpbljcjghjbjdaaDoor
