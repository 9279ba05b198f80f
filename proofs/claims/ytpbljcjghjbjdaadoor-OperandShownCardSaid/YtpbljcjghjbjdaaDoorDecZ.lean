/- Decimals as whole numbers at a scale (plain facts, of no program). -/
import Derived.Test.YtpbljcjghjbjdaaDoorDecM
namespace Go.Proofs.YtpbljcjghjbjdaaDoor

structure Dc where
  neg : Bool
  i : List Nat
  f : List Nat
def Dc.num (d : Dc) : Nat := dVal (d.i ++ d.f)
def Dc.z (d : Dc) : Int := if d.neg then -(d.num : Int) else d.num
structure Dc.Ok (d : Dc) : Prop where
  di : Digs d.i
  df : Digs d.f
  one : 1 ≤ d.i.length
  most : d.i.length + d.f.length ≤ 40
  lead : d.i.length = 1 ∨ ∃ x, d.i.head? = some x ∧ x ≠ 0
  sign : d.neg = true → d.num ≠ 0

def padTo (k : Nat) (l : List Nat) : List Nat := List.replicate (k - l.length) 0 ++ l
theorem padTo_len (k : Nat) (l : List Nat) : (padTo k l).length = max k l.length := by
  unfold padTo
  rw [List.length_append, List.length_replicate]
  omega
theorem padTo_val (k : Nat) (l : List Nat) : dVal (padTo k l) = dVal l := by
  unfold padTo
  rw [dVal_append, dVal_zeros]
  omega
theorem padTo_digs {k : Nat} {l : List Nat} (h : Digs l) : Digs (padTo k l) := .append (.zeros _) h
theorem padTo_same {k : Nat} {l : List Nat} (h : k ≤ l.length) : padTo k l = l := by
  unfold padTo
  rw [show k - l.length = 0 by omega]
  rfl

/-- The decimal of a whole number at a scale, if it has no more than 40 digits. -/
def mk (z : Int) (s : Nat) : Option Dc :=
  if 40 < (padTo (s + 1) (digs z.natAbs)).length then none
  else some ⟨decide (z < 0), (padTo (s + 1) (digs z.natAbs)).take ((padTo (s + 1) (digs z.natAbs)).length - s), (padTo (s + 1) (digs z.natAbs)).drop ((padTo (s + 1) (digs z.natAbs)).length - s)⟩

theorem mk_none {z : Int} {s : Nat} : mk z s = none ↔ 40 ≤ s ∨ 10 ^ 40 ≤ z.natAbs := by
  have h1 := digs_le z.natAbs 40 (by omega)
  unfold mk
  rw [padTo_len]
  constructor
  · intro h
    split at h
    · omega
    · cases h
  · intro h
    rw [if_pos (by omega)]

theorem digs_head {n x : Nat} (h : (digs n).head? = some x) (h2 : 2 ≤ (digs n).length) : x ≠ 0 := by
  intro e
  subst e
  cases hd : digs n with
  | nil => rw [hd] at h; cases h
  | cons y l =>
    rw [hd] at h h2
    simp at h
    subst h
    have hg : Digs (0 :: l) := hd ▸ digs_digs n
    have e1 := dVal_digs n
    rw [hd, dVal_cons] at e1
    have e2 := dVal_lt hg.tail
    have hl1 : 1 ≤ l.length := by simpa using h2
    have e3 := (digs_le n l.length hl1).2 (by omega)
    rw [hd, List.length_cons] at e3
    omega

theorem mk_some {z : Int} {s : Nat} {d : Dc} (h : mk z s = some d) : d.z = z ∧ d.f.length = s ∧ d.Ok ∧ d.num = z.natAbs ∧ d.neg = decide (z < 0) := by
  unfold mk at h
  split at h
  · cases h
  · rename_i hn
    have hlen := padTo_len (s + 1) (digs z.natAbs)
    have hd := digs_len z.natAbs
    have hv : dVal (padTo (s + 1) (digs z.natAbs)) = z.natAbs := by rw [padTo_val, dVal_digs]
    have hg : Digs (padTo (s + 1) (digs z.natAbs)) := padTo_digs (digs_digs _)
    have hlead : (padTo (s + 1) (digs z.natAbs)).length - s = 1 ∨ padTo (s + 1) (digs z.natAbs) = digs z.natAbs ∧ 2 ≤ (digs z.natAbs).length := by
      by_cases c : s + 1 < (digs z.natAbs).length
      · exact .inr ⟨padTo_same (by omega), by omega⟩
      · exact .inl (by omega)
    generalize padTo (s + 1) (digs z.natAbs) = l at *
    have e := Option.some.inj h
    subst e
    have hnum : (⟨decide (z < 0), l.take (l.length - s), l.drop (l.length - s)⟩ : Dc).num = z.natAbs := by
      unfold Dc.num
      simp only [List.take_append_drop]
      exact hv
    refine ⟨?_, ?_, ⟨hg.take _, hg.drop _, ?_, ?_, ?_, ?_⟩, hnum, rfl⟩
    · unfold Dc.z
      rw [hnum]
      by_cases c : z < 0
      · simp only [c, decide_true, if_true]
        omega
      · simp only [c, decide_false, Bool.false_eq_true, if_false]
        omega
    · simp only [List.length_drop]
      omega
    · simp only [List.length_take]
      omega
    · simp only [List.length_take, List.length_drop]
      omega
    · rcases hlead with h1 | ⟨h1, h2⟩
      · left
        simp only [List.length_take]
        omega
      · right
        simp only
        cases hc : l with
        | nil => rw [h1] at hc; rw [hc] at h2; simp at h2
        | cons x m =>
          have h3 : (digs z.natAbs).head? = some x := by rw [← h1, hc]; rfl
          refine ⟨x, ?_, digs_head h3 h2⟩
          obtain ⟨k, hk⟩ : ∃ k, (x :: m).length - s = k + 1 := ⟨(x :: m).length - s - 1, by rw [← hc]; omega⟩
          rw [hk]
          rfl
    · intro hneg
      rw [hnum]
      have : z < 0 := by simpa using hneg
      omega

/-- A decimal that may be is that of its number at its scale. -/
theorem mk_ok {d : Dc} (h : d.Ok) : mk d.z d.f.length = some d := by
  have hab : d.z.natAbs = d.num := by
    unfold Dc.z
    split <;> omega
  have hg : Digs (d.i ++ d.f) := .append h.di h.df
  have h1 := h.one
  have h2 := h.most
  have hpad : padTo (d.f.length + 1) (digs d.z.natAbs) = d.i ++ d.f := by
    rw [hab]
    rcases h.lead with hl | ⟨x, hx, hx0⟩
    · have hlen : (d.i ++ d.f).length = d.f.length + 1 := by rw [List.length_append]; omega
      have hlt := dVal_lt hg
      rw [hlen] at hlt
      have := (digs_le d.num (d.f.length + 1) (by omega)).2 hlt
      refine dVal_inj (padTo_digs (digs_digs _)) hg ?_ ?_
      · rw [padTo_len, hlen]; omega
      · rw [padTo_val, dVal_digs]; rfl
    · have e : dLead (d.i ++ d.f) = d.i ++ d.f := by
        cases hi : d.i with
        | nil => rw [hi] at hx; cases hx
        | cons y m =>
          rw [hi] at hx
          simp at hx
          subst hx
          cases hm : m ++ d.f with
          | nil => simp only [List.cons_append, hm]; rfl
          | cons a b => simp only [List.cons_append, hm]; exact if_neg hx0
      rw [dLead_digs _ hg] at e
      have : digs d.num = d.i ++ d.f := e
      rw [this]
      exact padTo_same (by rw [List.length_append]; omega)
  unfold mk
  rw [hpad, List.length_append, if_neg (by omega)]
  have hneg : decide (d.z < 0) = d.neg := by
    unfold Dc.z
    cases hn : d.neg with
    | true =>
      have := h.sign hn
      simp only [if_true]
      exact decide_eq_true (by omega)
    | false =>
      simp only [Bool.false_eq_true, if_false]
      exact decide_eq_false (by omega)
  rw [hneg, show d.i.length + d.f.length - d.f.length = d.i.length by omega]
  simp
theorem ok_inj {a b : Dc} (ha : a.Ok) (hb : b.Ok) (hz : a.z = b.z) (hf : a.f.length = b.f.length) : a = b := by
  have e1 := mk_ok ha
  have e2 := mk_ok hb
  rw [hz, hf, e2] at e1
  exact (Option.some.inj e1).symm
theorem num_lt {d : Dc} (h : d.Ok) : d.num < 10 ^ 40 := by
  have h1 := dVal_lt (Digs.append h.di h.df)
  have h2 := h.most
  rw [List.length_append] at h1
  exact Nat.lt_of_lt_of_le h1 (Nat.pow_le_pow_right (by omega) h2)

/-- A decimal's number at a greater scale. -/
def Dc.up (d : Dc) (s : Nat) : Int := d.z * 10 ^ (s - d.f.length)
/-- Sums, differences, products, all at once: a whole number at a scale. -/
def sumD (a b : Dc) : Option Dc := mk (a.up (max a.f.length b.f.length) + b.up (max a.f.length b.f.length)) (max a.f.length b.f.length)
def subD (a b : Dc) : Option Dc := mk (a.up (max a.f.length b.f.length) - b.up (max a.f.length b.f.length)) (max a.f.length b.f.length)
def mulD (a b : Dc) : Option Dc := mk (a.z * b.z) (a.f.length + b.f.length)
def cmpD (a b : Dc) : Int := (a.up (max a.f.length b.f.length) - b.up (max a.f.length b.f.length)).sign
theorem sum_comm (a b : Dc) : sumD a b = sumD b a := by unfold sumD; rw [Nat.max_comm, Int.add_comm]
theorem mul_comm (a b : Dc) : mulD a b = mulD b a := by unfold mulD; rw [Nat.add_comm, Int.mul_comm]
/-- At a still greater scale it is that much greater. -/
theorem up_up (d : Dc) (s t : Nat) (h1 : d.f.length ≤ s) (h2 : s ≤ t) : d.up s * 10 ^ (t - s) = d.up t := by
  unfold Dc.up
  rw [Int.mul_assoc, ← Int.pow_add]
  congr 2
  omega
theorem up_of {z : Int} {s : Nat} {d : Dc} (h : mk z s = some d) (t : Nat) : d.up t = z * 10 ^ (t - s) := by
  obtain ⟨h1, h2, _⟩ := mk_some h
  unfold Dc.up
  rw [h1, h2]
theorem sum_assoc {a b c ab bc : Dc} (h1 : sumD a b = some ab) (h2 : sumD b c = some bc) : sumD ab c = sumD a bc := by
  obtain ⟨-, l1, -⟩ := mk_some h1
  obtain ⟨-, l2, -⟩ := mk_some h2
  unfold sumD
  rw [up_of h1, up_of h2, l1, l2]
  have e : max (max a.f.length b.f.length) c.f.length = max a.f.length (max b.f.length c.f.length) := Nat.max_assoc _ _ _
  rw [e]
  generalize hs : max a.f.length (max b.f.length c.f.length) = s
  rw [Int.add_mul, Int.add_mul, up_up a _ _ (by omega) (by omega), up_up b _ _ (by omega) (by omega), up_up b _ _ (by omega) (by omega), up_up c _ _ (by omega) (by omega), Int.add_assoc]
theorem mul_assoc {a b c ab bc : Dc} (h1 : mulD a b = some ab) (h2 : mulD b c = some bc) : mulD ab c = mulD a bc := by
  obtain ⟨z1, l1, -⟩ := mk_some h1
  obtain ⟨z2, l2, -⟩ := mk_some h2
  unfold mulD
  rw [z1, z2, l1, l2, Int.mul_assoc, Nat.add_assoc]
theorem ten_pos (n : Nat) : (0 : Int) < 10 ^ n := Int.pow_pos (by omega)
/-- As great: at any scale that holds both. -/
theorem cmp_zero {a b : Dc} (s : Nat) (ha : a.f.length ≤ s) (hb : b.f.length ≤ s) : cmpD a b = 0 ↔ a.up s = b.up s := by
  unfold cmpD
  rw [Int.sign_eq_zero_iff_zero]
  have e1 := up_up a (max a.f.length b.f.length) s (by omega) (by omega)
  have e2 := up_up b (max a.f.length b.f.length) s (by omega) (by omega)
  rw [← e1, ← e2]
  have hp := ten_pos (s - max a.f.length b.f.length)
  constructor
  · intro h
    rw [show a.up (max a.f.length b.f.length) = b.up (max a.f.length b.f.length) by omega]
  · intro h
    have := Int.eq_of_mul_eq_mul_right (by omega) h
    omega
/-- What was taken away is put back. -/
theorem sub_add {a b d s : Dc} (h1 : subD a b = some d) (h2 : sumD d b = some s) : cmpD s a = 0 := by
  obtain ⟨z1, l1, -⟩ := mk_some h1
  obtain ⟨z2, l2, -⟩ := mk_some h2
  rw [cmp_zero (max a.f.length b.f.length) (by omega) (by omega), up_of h2, up_of h1, l1]
  rw [show max (max a.f.length b.f.length) b.f.length = max a.f.length b.f.length by omega]
  simp only [Nat.sub_self, Int.pow_zero, Int.mul_one]
  omega
/-- A product of a sum. -/
theorem mul_sum {a b c ab ac bc x y : Dc} (h1 : sumD b c = some bc) (h2 : mulD a b = some ab) (h3 : mulD a c = some ac) (h4 : mulD a bc = some x) (h5 : sumD ab ac = some y) : cmpD x y = 0 := by
  obtain ⟨z1, l1, -⟩ := mk_some h1
  obtain ⟨z2, l2, -⟩ := mk_some h2
  obtain ⟨z3, l3, -⟩ := mk_some h3
  obtain ⟨z4, l4, -⟩ := mk_some h4
  obtain ⟨z5, l5, -⟩ := mk_some h5
  have hs : a.f.length + max b.f.length c.f.length = max (a.f.length + b.f.length) (a.f.length + c.f.length) := by omega
  rw [cmp_zero (a.f.length + max b.f.length c.f.length) (by omega) (by omega), up_of h4, up_of h5, up_of h2, up_of h3, l1, l2, l3, z1, hs]
  simp only [Nat.sub_self, Int.pow_zero, Int.mul_one]
  unfold Dc.up
  rw [Int.mul_add, ← Int.mul_assoc, ← Int.mul_assoc]
  congr 3
  · omega
  · omega
/-- One order by worth. -/
theorem cmp_sign (a b : Dc) (s : Nat) (ha : a.f.length ≤ s) (hb : b.f.length ≤ s) : cmpD a b = (a.up s - b.up s).sign := by
  unfold cmpD
  have e1 := up_up a (max a.f.length b.f.length) s (by omega) (by omega)
  have e2 := up_up b (max a.f.length b.f.length) s (by omega) (by omega)
  rw [← e1, ← e2, ← Int.sub_mul, Int.sign_mul, Int.sign_eq_one_of_pos (ten_pos _), Int.mul_one]
theorem cmp_neg (a b : Dc) : cmpD b a = -cmpD a b := by
  rw [cmp_sign a b (max a.f.length b.f.length) (by omega) (by omega), cmp_sign b a (max a.f.length b.f.length) (by omega) (by omega), ← Int.sign_neg]
  congr 1
  omega
theorem cmp_range (a b : Dc) : -1 ≤ cmpD a b ∧ cmpD a b ≤ 1 := by
  unfold cmpD
  generalize a.up _ - b.up _ = x
  rcases Int.lt_trichotomy x 0 with h | h | h
  · rw [Int.sign_eq_neg_one_of_neg h]; omega
  · rw [h]; decide
  · rw [Int.sign_eq_one_of_pos h]; omega
theorem cmp_le_iff (a b : Dc) (s : Nat) (ha : a.f.length ≤ s) (hb : b.f.length ≤ s) : (cmpD a b ≤ 0 ↔ a.up s ≤ b.up s) ∧ (cmpD a b = 0 ↔ a.up s = b.up s) := by
  refine ⟨?_, cmp_zero s ha hb⟩
  rw [cmp_sign a b s ha hb]
  generalize a.up s = x
  generalize b.up s = y
  rcases Int.lt_trichotomy (x - y) 0 with h | h | h
  · rw [Int.sign_eq_neg_one_of_neg h]; omega
  · rw [h]; simp; omega
  · rw [Int.sign_eq_one_of_pos h]; omega
theorem cmp_trans (a b c : Dc) (h1 : cmpD a b ≤ 0) (h2 : cmpD b c ≤ 0) : cmpD a c ≤ 0 ∧ (cmpD a c = 0 → cmpD a b = 0 ∧ cmpD b c = 0) := by
  have l1 := cmp_le_iff a b (max a.f.length (max b.f.length c.f.length)) (by omega) (by omega)
  have l2 := cmp_le_iff b c (max a.f.length (max b.f.length c.f.length)) (by omega) (by omega)
  have l3 := cmp_le_iff a c (max a.f.length (max b.f.length c.f.length)) (by omega) (by omega)
  generalize max a.f.length (max b.f.length c.f.length) = s at *
  have h1' := l1.1.1 h1
  have h2' := l2.1.1 h2
  refine ⟨l3.1.2 (by omega), fun h => ?_⟩
  have h3 := l3.2.1 h
  exact ⟨l1.2.2 (by omega), l2.2.2 (by omega)⟩
def dcZero : Dc := ⟨false, [0], []⟩
/-- A difference stands to 0 as its two stand to one another. -/
theorem sub_cmp {a b d : Dc} (h : subD a b = some d) : cmpD d dcZero = cmpD a b := by
  obtain ⟨z1, l1, -⟩ := mk_some h
  rw [cmp_sign d dcZero (max a.f.length b.f.length) (by omega) (by simp [dcZero]), up_of h]
  have e : dcZero.up (max a.f.length b.f.length) = 0 := by
    unfold Dc.up
    have : dcZero.z = 0 := rfl
    rw [this, Int.zero_mul]
  rw [e, Nat.sub_self, Int.pow_zero, Int.mul_one, Int.sub_zero]
  rfl

/-- Quotient and what is left, towards 0. -/
def quoD (a b : Dc) : Option Dc := mk ((a.up (max a.f.length b.f.length)).tdiv (b.up (max a.f.length b.f.length))) 0
def remD (a b : Dc) : Option Dc := mk ((a.up (max a.f.length b.f.length)).tmod (b.up (max a.f.length b.f.length))) (max a.f.length b.f.length)
theorem quo_rem {a b q r p s : Dc} (h1 : quoD a b = some q) (h2 : remD a b = some r) (h3 : mulD q b = some p) (h4 : sumD p r = some s) : cmpD s a = 0 := by
  obtain ⟨z1, l1, -⟩ := mk_some h1
  obtain ⟨z2, l2, -⟩ := mk_some h2
  obtain ⟨z3, l3, -⟩ := mk_some h3
  obtain ⟨z4, l4, -⟩ := mk_some h4
  have hs : max p.f.length r.f.length = max a.f.length b.f.length := by omega
  rw [hs] at z4 l4
  rw [cmp_zero (max a.f.length b.f.length) (by omega) (by omega)]
  have e1 : s.up (max a.f.length b.f.length) = s.z := by unfold Dc.up; rw [l4, Nat.sub_self, Int.pow_zero, Int.mul_one]
  have e2 : p.up (max a.f.length b.f.length) = q.z * b.up (max a.f.length b.f.length) := by
    unfold Dc.up
    rw [z3, l3, l1, Nat.zero_add, Int.mul_assoc]
  have e3 : r.up (max a.f.length b.f.length) = r.z := by unfold Dc.up; rw [l2, Nat.sub_self, Int.pow_zero, Int.mul_one]
  rw [e1, z4, e2, e3, z1, z2, Int.mul_comm]
  exact Int.mul_tdiv_add_tmod _ _
/-- What is left always has room, is less than what was divided by, and has the sign of what was divided. -/
theorem rem_small {x y : Int} (hy : y ≠ 0) : (x.tmod y).natAbs < y.natAbs ∧ (x.tmod y).natAbs ≤ x.natAbs ∧ (x.tmod y < 0 → x < 0) ∧ (0 < x.tmod y → 0 < x) := by
  have h1 : (x.tmod y).natAbs = x.natAbs % y.natAbs := Int.natAbs_tmod _ _
  have hp : 0 < y.natAbs := by omega
  refine ⟨by rw [h1]; exact Nat.mod_lt _ hp, by rw [h1]; exact Nat.mod_le _ _, fun h => ?_, fun h => ?_⟩
  · rcases Int.lt_or_le x 0 with c | c
    · exact c
    · have := Int.tmod_nonneg y c; omega
  · rcases Int.lt_or_le 0 x with c | c
    · exact c
    · have h2 := Int.tmod_nonneg y (show 0 ≤ -x by omega)
      rw [Int.neg_tmod] at h2
      omega
/-- Both moved alike leave what was left, moved alike. -/
theorem rem_scale (x y t : Int) (ht : 0 < t) : (x * t).tmod (y * t) = x.tmod y * t := by
  rw [Int.tmod_def, Int.tmod_def, Int.mul_tdiv_mul_of_pos_left _ _ ht, Int.sub_mul]
  congr 1
  rw [Int.mul_assoc, Int.mul_assoc, Int.mul_comm t]
theorem z_lt {d : Dc} (h : d.Ok) : d.z.natAbs < 10 ^ 40 := by
  have := num_lt h
  unfold Dc.z
  split <;> omega
theorem f_lt {d : Dc} (h : d.Ok) : d.f.length < 40 := by
  have h1 := h.one
  have h2 := h.most
  omega
theorem up_same {d : Dc} : d.up d.f.length = d.z := by unfold Dc.up; rw [Nat.sub_self, Int.pow_zero, Int.mul_one]
theorem up_zero {d : Dc} (s : Nat) : d.up s = 0 ↔ d.z = 0 := by
  unfold Dc.up
  have := ten_pos (s - d.f.length)
  constructor
  · intro h
    rcases Int.mul_eq_zero.1 h with h | h
    · exact h
    · omega
  · intro h
    rw [h, Int.zero_mul]
/-- There is always room for what is left. -/
theorem rem_room {a b : Dc} (ha : a.Ok) (hb : b.Ok) (h0 : b.z ≠ 0) : ∃ r, remD a b = some r := by
  cases hr : remD a b with
  | some r => exact ⟨r, rfl⟩
  | none =>
    exfalso
    have h1 := mk_none.1 hr
    have hy : b.up (max a.f.length b.f.length) ≠ 0 := fun h => h0 ((up_zero _).1 h)
    have h2 := rem_small (x := a.up (max a.f.length b.f.length)) hy
    have f1 := f_lt ha
    have f2 := f_lt hb
    rcases h1 with h1 | h1
    · omega
    · rcases Nat.le_total a.f.length b.f.length with c | c
      · have e : b.up (max a.f.length b.f.length) = b.z := by rw [Nat.max_eq_right c]; exact up_same
        have := z_lt hb
        rw [e] at h2 h1
        omega
      · have e : a.up (max a.f.length b.f.length) = a.z := by rw [Nat.max_eq_left c]; exact up_same
        have := z_lt ha
        rw [e] at h2 h1
        omega
theorem rem_up {a b r : Dc} (h : remD a b = some r) (s : Nat) (ha : a.f.length ≤ s) (hb : b.f.length ≤ s) : r.up s = (a.up s).tmod (b.up s) := by
  rw [up_of h, ← up_up a (max a.f.length b.f.length) s (by omega) (by omega), ← up_up b (max a.f.length b.f.length) s (by omega) (by omega), rem_scale _ _ _ (ten_pos _)]

/-- Moved by a power of ten. -/
def shD (d : Dc) (n : Int) : Option Dc := if (d.f.length : Int) < n then mk (d.z * 10 ^ (n - d.f.length).toNat) 0 else mk d.z ((d.f.length : Int) - n).toNat
theorem sh_up {d x : Dc} {n : Int} (h : shD d n = some x) (s : Nat) (h1 : d.f.length ≤ s) (h2 : x.f.length ≤ s) : x.up s * 10 ^ (-n).toNat = d.up s * 10 ^ n.toNat := by
  unfold shD at h
  split at h
  · rename_i hn
    rw [up_of h]
    unfold Dc.up
    rw [Int.mul_assoc, Int.mul_assoc, Int.mul_assoc, ← Int.pow_add, ← Int.pow_add, ← Int.pow_add]
    congr 2
    omega
  · rename_i hn
    obtain ⟨-, l, -⟩ := mk_some h
    rw [up_of h]
    unfold Dc.up
    rw [Int.mul_assoc, Int.mul_assoc, ← Int.pow_add, ← Int.pow_add]
    congr 2
    omega
theorem mul_ten_inj {x y : Int} (k : Nat) (h : x * 10 ^ k = y * 10 ^ k) : x = y := Int.eq_of_mul_eq_mul_right (by have := ten_pos k; omega) h
/-- Moved there and back. -/
theorem sh_back {d x y : Dc} {n : Int} (h1 : shD d n = some x) (h2 : shD x (-n) = some y) : cmpD y d = 0 := by
  rw [cmp_zero (max d.f.length (max x.f.length y.f.length)) (by omega) (by omega)]
  have e1 := sh_up h1 (max d.f.length (max x.f.length y.f.length)) (by omega) (by omega)
  have e2 := sh_up h2 (max d.f.length (max x.f.length y.f.length)) (by omega) (by omega)
  rw [Int.neg_neg] at e2
  generalize max d.f.length (max x.f.length y.f.length) = s at *
  by_cases c : 0 ≤ n
  · have z : (-n).toNat = 0 := by omega
    rw [z, Int.pow_zero, Int.mul_one] at e1 e2
    rw [e1] at e2
    exact mul_ten_inj _ e2
  · have z : n.toNat = 0 := by omega
    rw [z, Int.pow_zero, Int.mul_one] at e1 e2
    rw [e2, e1]
/-- What is left of both moved alike. -/
theorem sh_rem {a b r c d u v : Dc} {n : Int} (hr : remD a b = some r) (hc : shD a n = some c) (hd : shD b n = some d) (hu : remD c d = some u) (hv : shD r n = some v) : cmpD u v = 0 := by
  obtain ⟨-, lr, -⟩ := mk_some hr
  obtain ⟨-, lu, -⟩ := mk_some hu
  generalize hs : max (max a.f.length b.f.length) (max (max c.f.length d.f.length) v.f.length) = s
  rw [cmp_zero s (by omega) (by omega)]
  have e1 := sh_up hc s (by omega) (by omega)
  have e2 := sh_up hd s (by omega) (by omega)
  have e3 := sh_up hv s (by omega) (by omega)
  have e4 := rem_up hr s (by omega) (by omega)
  have e5 := rem_up hu s (by omega) (by omega)
  refine mul_ten_inj (-n).toNat ?_
  rw [e5, ← rem_scale _ _ _ (ten_pos _), e1, e2, rem_scale _ _ _ (ten_pos _), ← e4, e3]

/-- Without noughts at the end. -/
def Trimmed (d : Dc) : Prop := d.f = [] ∨ ∃ x, d.f.getLast? = some x ∧ x ≠ 0
theorem num_mod {d : Dc} (h : d.Ok) {x : Nat} (hx : d.f.getLast? = some x) : d.num % 10 = x := by
  have hne : d.f ≠ [] := by intro e; rw [e] at hx; cases hx
  have e : d.f = d.f.dropLast ++ [x] := by
    have h1 := List.dropLast_concat_getLast hne
    rw [List.getLast?_eq_some_getLast hne] at hx
    rw [← Option.some.inj hx]
    exact h1.symm
  unfold Dc.num
  rw [e, ← List.append_assoc, dVal_snoc]
  have : x < 10 := h.df x (List.mem_of_getLast? hx)
  omega
/-- Two that are as great and have no noughts at the end are the same. -/
theorem trimmed_same {a b : Dc} (ha : a.Ok) (hb : b.Ok) (ta : Trimmed a) (tb : Trimmed b) (h : cmpD a b = 0) : a = b := by
  have key : ∀ {a b : Dc}, a.Ok → b.Ok → Trimmed b → cmpD a b = 0 → b.f.length ≤ a.f.length := by
    intro a b ha hb tb h
    rcases Nat.lt_or_ge a.f.length b.f.length with c | c
    · exfalso
      rcases tb with tb | ⟨x, hx, hx0⟩
      · rw [tb] at c
        simp at c
      · have e := (cmp_zero b.f.length (by omega) (Nat.le_refl _)).1 h
        rw [up_same] at e
        have hm := num_mod hb hx
        obtain ⟨k, hk⟩ : ∃ k, b.f.length - a.f.length = k + 1 := ⟨b.f.length - a.f.length - 1, by omega⟩
        unfold Dc.up at e
        rw [hk, Int.pow_succ, ← Int.mul_assoc] at e
        have hb2 : b.z = b.num ∨ b.z = -(b.num : Int) := by unfold Dc.z; split <;> simp
        have hb10 : b.num < 10 ∨ 10 ≤ b.num := by omega
        generalize a.z * 10 ^ k = y at e
        have hx9 : x < 10 := hb.df x (List.mem_of_getLast? hx)
        omega
    · exact c
  have l1 := key ha hb tb h
  have h' : cmpD b a = 0 := by rw [cmp_neg, h]; rfl
  have l2 := key hb ha ta h'
  have hl : a.f.length = b.f.length := by omega
  refine ok_inj ha hb ?_ hl
  have e := (cmp_zero a.f.length (Nat.le_refl _) (by omega)).1 h
  rw [up_same] at e
  rw [e, hl, up_same]
/-- The last nought taken away. -/
theorem trim_step {d e : Dc} (h : d.Ok) (hf : d.f = e.f ++ [0]) (hi : e.i = d.i) (hn : e.neg = d.neg) : e.Ok ∧ cmpD e d = 0 := by
  have hnum : d.num = e.num * 10 := by
    unfold Dc.num
    rw [hf, hi, ← List.append_assoc, dVal_snoc, Nat.add_zero]
  have hl : d.f.length = e.f.length + 1 := by rw [hf]; simp
  have hm := h.most
  refine ⟨⟨by rw [hi]; exact h.di, by have := h.df; rw [hf] at this; exact this.left, by rw [hi]; exact h.one, by rw [hi]; omega, by rw [hi]; exact h.lead, fun hs => ?_⟩, ?_⟩
  · have := h.sign (by rw [← hn]; exact hs)
    omega
  · rw [cmp_zero d.f.length (by omega) (Nat.le_refl _), up_same]
    unfold Dc.up Dc.z
    rw [hn, hnum, hl, show e.f.length + 1 - e.f.length = 1 by omega]
    split
    · omega
    · omega
/-- A decimal out of a sign and a number. -/
def mkN (neg : Bool) (n s : Nat) : Option Dc := mk (if neg then -(n : Int) else n) s
/-- A decimal's number at a greater scale, without its sign. -/
def Dc.raised (d : Dc) (s : Nat) : Nat := d.num * 10 ^ (s - d.f.length)
theorem up_raised (d : Dc) (s : Nat) : d.up s = if d.neg then -(d.raised s : Int) else d.raised s := by
  unfold Dc.up Dc.z Dc.raised
  split
  · rw [Int.neg_mul, Int.natCast_mul, Int.natCast_pow]; rfl
  · rw [Int.natCast_mul, Int.natCast_pow]; rfl
theorem sum_same {a b : Dc} {s : Nat} (hs : s = max a.f.length b.f.length) (h : a.neg = b.neg) : mkN b.neg (a.raised s + b.raised s) s = sumD a b := by
  unfold sumD mkN
  rw [← hs, up_raised, up_raised, h]
  congr 1
  split <;> omega
theorem sum_first {a b : Dc} {s : Nat} (hs : s = max a.f.length b.f.length) (h : a.neg ≠ b.neg) (hle : b.raised s ≤ a.raised s) : mkN a.neg (a.raised s - b.raised s) s = sumD a b := by
  unfold sumD mkN
  rw [← hs, up_raised, up_raised]
  congr 1
  cases ha : a.neg <;> cases hb : b.neg <;> simp_all <;> omega
theorem sum_second {a b : Dc} {s : Nat} (hs : s = max a.f.length b.f.length) (h : a.neg ≠ b.neg) (hle : a.raised s ≤ b.raised s) : mkN b.neg (b.raised s - a.raised s) s = sumD a b := by
  unfold sumD mkN
  rw [← hs, up_raised, up_raised]
  congr 1
  cases ha : a.neg <;> cases hb : b.neg <;> simp_all <;> omega
theorem sub_same {a b : Dc} {s : Nat} (hs : s = max a.f.length b.f.length) (h : a.neg ≠ b.neg) : mkN a.neg (a.raised s + b.raised s) s = subD a b := by
  unfold subD mkN
  rw [← hs, up_raised, up_raised]
  congr 1
  cases ha : a.neg <;> cases hb : b.neg <;> simp_all <;> omega
theorem sub_first {a b : Dc} {s : Nat} (hs : s = max a.f.length b.f.length) (h : a.neg = b.neg) (hle : b.raised s ≤ a.raised s) : mkN a.neg (a.raised s - b.raised s) s = subD a b := by
  unfold subD mkN
  rw [← hs, up_raised, up_raised]
  congr 1
  cases ha : a.neg <;> cases hb : b.neg <;> simp_all <;> omega
theorem sub_second {a b : Dc} {s : Nat} (hs : s = max a.f.length b.f.length) (h : a.neg = b.neg) (hle : a.raised s ≤ b.raised s) : mkN (!b.neg) (b.raised s - a.raised s) s = subD a b := by
  unfold subD mkN
  rw [← hs, up_raised, up_raised]
  congr 1
  cases ha : a.neg <;> cases hb : b.neg <;> simp_all <;> omega
theorem mul_ref (a b : Dc) : mkN (a.neg != b.neg) (a.num * b.num) (a.f.length + b.f.length) = mulD a b := by
  unfold mulD mkN Dc.z
  congr 1
  cases ha : a.neg <;> cases hb : b.neg <;> simp [Int.natCast_mul, Int.neg_mul, Int.mul_neg]
theorem quo_ref (a b : Dc) {s : Nat} (hs : s = max a.f.length b.f.length) : mkN (a.neg != b.neg) (a.raised s / b.raised s) 0 = quoD a b := by
  unfold quoD mkN
  rw [← hs, up_raised, up_raised]
  congr 1
  have e : ((a.raised s : Int)).tdiv (b.raised s) = ((a.raised s / b.raised s : Nat) : Int) := rfl
  cases ha : a.neg <;> cases hb : b.neg <;> simp [Int.neg_tdiv, Int.tdiv_neg, e]
theorem rem_ref (a b : Dc) {s : Nat} (hs : s = max a.f.length b.f.length) : mkN a.neg (a.raised s % b.raised s) s = remD a b := by
  unfold remD mkN
  rw [← hs, up_raised, up_raised]
  congr 1
  have e : ((a.raised s : Int)).tmod (b.raised s) = ((a.raised s % b.raised s : Nat) : Int) := rfl
  cases ha : a.neg <;> cases hb : b.neg <;> simp [Int.neg_tmod, Int.tmod_neg, e]
def cmpN (x y : Nat) : Int := if x < y then -1 else if x = y then 0 else 1
theorem cmp_ref (a b : Dc) {s : Nat} (hs : s = max a.f.length b.f.length) (ha : a.neg = true → a.num ≠ 0) (hb : b.neg = true → b.num ≠ 0) :
    cmpD a b = if a.neg && b.neg then -cmpN (a.raised s) (b.raised s) else if a.neg then -1 else if b.neg then 1 else cmpN (a.raised s) (b.raised s) := by
  have pa : a.neg = true → 0 < a.raised s := fun h => Nat.mul_pos (Nat.pos_of_ne_zero (ha h)) (Nat.pow_pos (by omega))
  have pb : b.neg = true → 0 < b.raised s := fun h => Nat.mul_pos (Nat.pos_of_ne_zero (hb h)) (Nat.pow_pos (by omega))
  have sg : ∀ x : Int, x.sign = if x < 0 then -1 else if x = 0 then 0 else 1 := by
    intro x
    rcases Int.lt_trichotomy x 0 with h | h | h
    · rw [if_pos h, Int.sign_eq_neg_one_of_neg h]
    · rw [if_neg (by omega), if_pos h, h]; rfl
    · rw [if_neg (by omega), if_neg (by omega), Int.sign_eq_one_of_pos h]
  unfold cmpD cmpN
  rw [← hs, up_raised, up_raised, sg]
  generalize a.raised s = x at *
  generalize b.raised s = y at *
  cases hna : a.neg with
  | true =>
    have pa' := pa hna
    cases hnb : b.neg with
    | true =>
      simp only [Bool.and_self, if_true]
      (repeat' split) <;> omega
    | false =>
      simp only [Bool.and_false, Bool.false_eq_true, if_false, if_true]
      (repeat' split) <;> omega
  | false =>
    cases hnb : b.neg with
    | true =>
      have pb' := pb hnb
      simp only [Bool.and_true, Bool.false_eq_true, if_false, if_true]
      (repeat' split) <;> omega
    | false =>
      simp only [Bool.and_self, Bool.false_eq_true, if_false]
      (repeat' split) <;> omega
/-- The number of a decimal at a greater scale, as the text of its digits with noughts behind. -/
theorem raised_digs (d : Dc) (s : Nat) : dVal (d.i ++ d.f ++ List.replicate (s - d.f.length) 0) = d.raised s := by
  rw [dVal_append, dVal_zeros, List.length_replicate, Nat.add_zero]
  rfl
/-- A number's digits, with noughts ahead where it has too few, cut at its scale. -/
theorem mkN_digs (neg : Bool) (n s : Nat) : mkN neg n s = if 40 < (padTo (s + 1) (digs n)).length then none else some ⟨neg && decide (n ≠ 0), (padTo (s + 1) (digs n)).take ((padTo (s + 1) (digs n)).length - s), (padTo (s + 1) (digs n)).drop ((padTo (s + 1) (digs n)).length - s)⟩ := by
  unfold mkN mk
  have e1 : (if neg = true then -(n : Int) else n).natAbs = n := by split <;> omega
  have e2 : decide ((if neg = true then -(n : Int) else n) < 0) = (neg && decide (n ≠ 0)) := by
    cases neg with
    | true =>
      by_cases h : n = 0
      · subst h; rfl
      · rw [decide_eq_true h]
        exact decide_eq_true (by simp only [if_true]; omega)
    | false => exact decide_eq_false (by simp only [Bool.false_eq_true, if_false]; omega)
  rw [e1, e2]
end Go.Proofs.YtpbljcjghjbjdaaDoor
