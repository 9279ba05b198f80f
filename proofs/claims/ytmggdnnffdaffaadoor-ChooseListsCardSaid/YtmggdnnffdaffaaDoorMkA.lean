/- Merged: DecM, DecZ, DecT. -/
import Derived.Test.YtmggdnnffdaffaaDoorProg
namespace Go.Proofs.YtmggdnnffdaffaaDoor
section

/-- The worth of digits, the least first. -/
def rVal : List Nat → Nat
  | [] => 0
  | d :: ds => d + 10 * rVal ds
/-- The worth of digits, the greatest first. -/
def dVal (l : List Nat) : Nat := rVal l.reverse
def Digs (l : List Nat) : Prop := ∀ d ∈ l, d < 10

theorem Digs.nil : Digs [] := fun _ h => by cases h
theorem Digs.cons {d : Nat} {l : List Nat} (hd : d < 10) (h : Digs l) : Digs (d :: l) := fun x hx => by
  rcases List.mem_cons.1 hx with rfl | hx
  · exact hd
  · exact h x hx
theorem Digs.head {d : Nat} {l : List Nat} (h : Digs (d :: l)) : d < 10 := h d (by simp)
theorem Digs.tail {d : Nat} {l : List Nat} (h : Digs (d :: l)) : Digs l := fun x hx => h x (by simp [hx])
theorem Digs.append {a b : List Nat} (ha : Digs a) (hb : Digs b) : Digs (a ++ b) := fun x hx => by
  rcases List.mem_append.1 hx with hx | hx
  · exact ha x hx
  · exact hb x hx
theorem Digs.left {a b : List Nat} (h : Digs (a ++ b)) : Digs a := fun x hx => h x (by simp [hx])
theorem Digs.right {a b : List Nat} (h : Digs (a ++ b)) : Digs b := fun x hx => h x (by simp [hx])
theorem Digs.reverse {a : List Nat} (h : Digs a) : Digs a.reverse := fun x hx => h x (by simpa using hx)
theorem Digs.zeros (n : Nat) : Digs (List.replicate n 0) := fun x hx => by rw [List.eq_of_mem_replicate hx]; omega
theorem Digs.take {a : List Nat} (n : Nat) (h : Digs a) : Digs (a.take n) := fun x hx => h x (List.mem_of_mem_take hx)
theorem Digs.drop {a : List Nat} (n : Nat) (h : Digs a) : Digs (a.drop n) := fun x hx => h x (List.mem_of_mem_drop hx)

theorem rVal_append (a b : List Nat) : rVal (a ++ b) = rVal a + 10 ^ a.length * rVal b := by
  induction a with
  | nil => simp [rVal]
  | cons d a ih =>
    simp only [List.cons_append, rVal, ih, List.length_cons, Nat.pow_succ]
    rw [Nat.mul_add, Nat.add_assoc]
    congr 2
    rw [← Nat.mul_assoc, Nat.mul_comm 10]
theorem dVal_nil : dVal [] = 0 := rfl
theorem dVal_append (a b : List Nat) : dVal (a ++ b) = dVal a * 10 ^ b.length + dVal b := by
  unfold dVal
  rw [List.reverse_append, rVal_append, List.length_reverse, Nat.add_comm, Nat.mul_comm]
theorem dVal_one (d : Nat) : dVal [d] = d := by simp [dVal, rVal]
theorem dVal_snoc (a : List Nat) (d : Nat) : dVal (a ++ [d]) = dVal a * 10 + d := by rw [dVal_append, dVal_one]; rfl
theorem dVal_cons (d : Nat) (a : List Nat) : dVal (d :: a) = d * 10 ^ a.length + dVal a := by
  have := dVal_append [d] a
  rw [dVal_one] at this
  exact this
theorem rVal_lt {l : List Nat} (h : Digs l) : rVal l < 10 ^ l.length := by
  induction l with
  | nil => simp [rVal]
  | cons d l ih =>
    have h1 := ih h.tail
    have h2 := h.head
    simp only [rVal, List.length_cons, Nat.pow_succ]
    omega
theorem dVal_lt {l : List Nat} (h : Digs l) : dVal l < 10 ^ l.length := by
  have := rVal_lt h.reverse
  rwa [List.length_reverse] at this
theorem rVal_zeros (n : Nat) : rVal (List.replicate n 0) = 0 := by
  induction n with
  | zero => rfl
  | succ n ih => simp only [List.replicate_succ, rVal, ih]
theorem dVal_zeros (n : Nat) : dVal (List.replicate n 0) = 0 := by unfold dVal; rw [List.reverse_replicate, rVal_zeros]

/-- The digits of a number, the least first. -/
def digsR (n : Nat) : List Nat := if n < 10 then [n] else n % 10 :: digsR (n / 10)
/-- The digits of a number, the greatest first. -/
def digs (n : Nat) : List Nat := (digsR n).reverse

theorem digsR_small {n : Nat} (h : n < 10) : digsR n = [n] := by rw [digsR, if_pos h]
theorem digsR_great {n : Nat} (h : ¬ n < 10) : digsR n = n % 10 :: digsR (n / 10) := by rw [digsR, if_neg h]
theorem digsR_digs (n : Nat) : Digs (digsR n) := by
  induction n using Nat.strongRecOn with
  | _ n ih =>
    by_cases h : n < 10
    · rw [digsR_small h]; exact .cons h .nil
    · rw [digsR_great h]; exact .cons (by omega) (ih (n / 10) (by omega))
theorem rVal_digsR (n : Nat) : rVal (digsR n) = n := by
  induction n using Nat.strongRecOn with
  | _ n ih =>
    by_cases h : n < 10
    · rw [digsR_small h]; simp [rVal]
    · rw [digsR_great h, rVal, ih (n / 10) (by omega)]; omega
theorem digs_digs (n : Nat) : Digs (digs n) := (digsR_digs n).reverse
theorem dVal_digs (n : Nat) : dVal (digs n) = n := by unfold dVal digs; rw [List.reverse_reverse, rVal_digsR]
theorem digsR_len (n : Nat) : 1 ≤ (digsR n).length := by
  by_cases h : n < 10
  · rw [digsR_small h]; simp
  · rw [digsR_great h]; simp
theorem digs_len (n : Nat) : 1 ≤ (digs n).length := by unfold digs; rw [List.length_reverse]; exact digsR_len n
/-- So many digits: less than that power of ten. -/
theorem digsR_le (n : Nat) : ∀ k, 1 ≤ k → ((digsR n).length ≤ k ↔ n < 10 ^ k) := by
  induction n using Nat.strongRecOn with
  | _ n ih =>
    intro k hk
    by_cases h : n < 10
    · rw [digsR_small h]
      have : 10 ^ 1 ≤ 10 ^ k := Nat.pow_le_pow_right (by omega) hk
      simp only [List.length_cons, List.length_nil]
      omega
    · rw [digsR_great h, List.length_cons]
      obtain ⟨m, rfl⟩ : ∃ m, k = m + 1 := ⟨k - 1, by omega⟩
      by_cases hm : 1 ≤ m
      · have := ih (n / 10) (by omega) m hm
        rw [Nat.pow_succ]
        omega
      · obtain rfl : m = 0 := by omega
        have := digsR_len (n / 10)
        simp only [Nat.zero_add, Nat.pow_one]
        omega
theorem digs_le (n k : Nat) (hk : 1 ≤ k) : (digs n).length ≤ k ↔ n < 10 ^ k := by unfold digs; rw [List.length_reverse]; exact digsR_le n k hk

/-- Digits without noughts ahead are those of their worth. -/
theorem rVal_pos {l : List Nat} (h : ∃ d, l.getLast? = some d ∧ d ≠ 0) : 0 < rVal l := by
  induction l with
  | nil => obtain ⟨d, h, _⟩ := h; cases h
  | cons a l ih =>
    cases l with
    | nil =>
      obtain ⟨d, h, h0⟩ := h
      simp at h
      subst h
      simp only [rVal]
      omega
    | cons b l =>
      have := ih (by simpa using h)
      simp only [rVal] at this ⊢
      omega
theorem digsR_same {l : List Nat} (hd : Digs l) (h : ∃ d, l.getLast? = some d ∧ d ≠ 0) : digsR (rVal l) = l := by
  induction l with
  | nil => obtain ⟨d, h, _⟩ := h; cases h
  | cons a l ih =>
    have ha := hd.head
    cases l with
    | nil => simp only [rVal, Nat.mul_zero, Nat.add_zero]; exact digsR_small ha
    | cons b l =>
      have h' : ∃ d, (b :: l).getLast? = some d ∧ d ≠ 0 := by simpa using h
      have hp := rVal_pos h'
      have e := ih hd.tail h'
      show digsR (a + 10 * rVal (b :: l)) = _
      rw [digsR_great (by omega), show (a + 10 * rVal (b :: l)) % 10 = a by omega, show (a + 10 * rVal (b :: l)) / 10 = rVal (b :: l) by omega, e]

/-- Without noughts ahead. -/
def dLead : List Nat → List Nat
  | [] => [0]
  | [d] => [d]
  | d :: e :: l => if d = 0 then dLead (e :: l) else d :: e :: l
theorem dLead_digs (l : List Nat) (h : Digs l) : dLead l = digs (dVal l) := by
  induction l with
  | nil => rw [dVal_nil]; unfold digs; rw [digsR_small (by omega)]; rfl
  | cons d l ih =>
    cases l with
    | nil => rw [dVal_one]; unfold digs; rw [digsR_small h.head]; rfl
    | cons e l =>
      by_cases h0 : d = 0
      · subst h0
        have e1 : dVal (0 :: e :: l) = dVal (e :: l) := by rw [dVal_cons]; omega
        rw [e1, ← ih h.tail]
        simp [dLead]
      · have : digsR (rVal (d :: e :: l).reverse) = (d :: e :: l).reverse := digsR_same h.reverse ⟨d, by simp, h0⟩
        unfold digs dVal
        rw [this, List.reverse_reverse]
        simp [dLead, h0]
theorem digs_snoc {n d : Nat} (hn : 0 < n) (hd : d < 10) : digs (n * 10 + d) = digs n ++ [d] := by
  unfold digs
  rw [digsR_great (n := n * 10 + d) (by omega), show (n * 10 + d) % 10 = d by omega, show (n * 10 + d) / 10 = n by omega]
  simp

/-- Digits by place, the least first; 0 beyond. -/
def rAt (l : List Nat) (i : Nat) : Nat := l.getD i 0
theorem rVal_take_succ (l : List Nat) (i : Nat) : rVal (l.take (i + 1)) = rVal (l.take i) + 10 ^ i * rAt l i := by
  induction l generalizing i with
  | nil => simp [rVal, rAt]
  | cons d l ih =>
    cases i with
    | zero => simp [rVal, rAt]
    | succ i =>
      have := ih i
      simp only [List.take_succ_cons, rVal, this, rAt, List.getD_cons_succ, Nat.pow_succ]
      rw [Nat.mul_add, Nat.add_assoc]
      congr 2
      rw [← Nat.mul_assoc, Nat.mul_comm 10]
theorem rAt_lt {l : List Nat} (h : Digs l) (i : Nat) : rAt l i < 10 := by
  unfold rAt
  rw [List.getD_eq_getElem?_getD]
  cases e : l[i]? with
  | none => simp
  | some d => simpa using h d (List.mem_of_getElem? e)
/-- A sum, place by place: what was written, and what is carried. -/
theorem plus_step {x y c : Nat} {a b out : List Nat} {i : Nat} (h : rVal out + 10 ^ i * c = rVal (a.take i) + rVal (b.take i)) (hl : out.length = i) (hx : x = rAt a i + rAt b i + c) (hy : y = x / 10) :
    rVal (out ++ [x % 10]) + 10 ^ (i + 1) * y = rVal (a.take (i + 1)) + rVal (b.take (i + 1)) := by
  rw [rVal_append, hl, rVal_take_succ, rVal_take_succ, hy, hx]
  simp only [rVal, Nat.pow_succ, Nat.mul_zero, Nat.add_zero]
  generalize rAt a i = u at *
  generalize rAt b i = v at *
  generalize 10 ^ i = p at *
  have e : p * ((u + v + c) % 10) + p * 10 * ((u + v + c) / 10) = p * u + p * v + p * c := by
    rw [Nat.mul_assoc, ← Nat.mul_add, ← Nat.mul_add, ← Nat.mul_add]
    congr 1
    omega
  omega
/-- A difference, place by place: the borrowed one. -/
theorem minus_step {c : Nat} {a b out : List Nat} {i z y : Nat} (h : rVal out + rVal (b.take i) = rVal (a.take i) + 10 ^ i * c) (hl : out.length = i)
    (hz : (rAt b i + c ≤ rAt a i ∧ z = rAt a i - rAt b i - c ∧ y = 0) ∨ (rAt a i < rAt b i + c ∧ z + rAt b i + c = rAt a i + 10 ∧ y = 1)) :
    rVal (out ++ [z]) + rVal (b.take (i + 1)) = rVal (a.take (i + 1)) + 10 ^ (i + 1) * y := by
  rw [rVal_append, hl, rVal_take_succ, rVal_take_succ]
  simp only [rVal, Nat.pow_succ, Nat.mul_zero, Nat.add_zero]
  generalize rAt a i = u at *
  generalize rAt b i = v at *
  generalize 10 ^ i = p at *
  rcases hz with ⟨h1, h2, rfl⟩ | ⟨h1, h2, rfl⟩
  · have e : p * z + p * v + p * c = p * u := by
      rw [← Nat.mul_add, ← Nat.mul_add]
      congr 1
      omega
    omega
  · have e : p * z + p * v + p * c = p * u + p * 10 * 1 := by
      rw [Nat.mul_assoc, ← Nat.mul_add, ← Nat.mul_add, ← Nat.mul_add]
      congr 1
    omega
theorem rVal_take_all {l : List Nat} {i : Nat} (h : l.length ≤ i) : rVal (l.take i) = rVal l := by rw [List.take_of_length_le h]

/-- Digits of the same number of places stand as their worth does; in front of the first one that differs. -/
theorem dVal_lt_of {p : List Nat} {x y : Nat} {a b : List Nat} (hxy : x < y) (ha : Digs a) (hl : a.length = b.length) : dVal (p ++ x :: a) < dVal (p ++ y :: b) := by
  rw [dVal_append, dVal_append, dVal_cons, dVal_cons]
  have h1 := dVal_lt ha
  simp only [List.length_cons, hl] at *
  have h2 : (x + 1) * 10 ^ b.length ≤ y * 10 ^ b.length := Nat.mul_le_mul_right _ hxy
  rw [Nat.add_mul, Nat.one_mul] at h2
  omega
theorem dVal_inj : ∀ {a b : List Nat}, Digs a → Digs b → a.length = b.length → dVal a = dVal b → a = b
  | [], [], _, _, _, _ => rfl
  | [], _ :: _, _, _, h, _ => by cases h
  | _ :: _, [], _, _, h, _ => by cases h
  | x :: a, y :: b, ha, hb, hl, hv => by
    have hl' : a.length = b.length := by simpa using hl
    have hxy : x = y := by
      rcases Nat.lt_trichotomy x y with h | h | h
      · have := dVal_lt_of (p := []) h ha.tail hl'
        simp only [List.nil_append] at this
        omega
      · exact h
      · have := dVal_lt_of (p := []) h hb.tail hl'.symm
        simp only [List.nil_append] at this
        omega
    subst hxy
    rw [dVal_cons, dVal_cons, hl'] at hv
    rw [dVal_inj ha.tail hb.tail hl' (by omega)]
theorem digs_inj {n m : Nat} (h : digs n = digs m) : n = m := by rw [← dVal_digs n, h, dVal_digs]
theorem digs_len_lt {n m : Nat} (h : (digs n).length < (digs m).length) : n < m := by
  have h1 := (digs_le n (digs n).length (digs_len n)).1 (Nat.le_refl _)
  have h2 := digs_le m (digs n).length (digs_len n)
  omega
/-- Division by hand: one digit more. -/
theorem over_step {q r b d k : Nat} {p : Nat} (hp : q * b + r = p) (hk : k * b ≤ r * 10 + d) : (q * 10 + k) * b + (r * 10 + d - k * b) = p * 10 + d := by
  have e : (q * 10 + k) * b = q * b * 10 + k * b := by rw [Nat.add_mul, Nat.mul_assoc, Nat.mul_comm 10 b, ← Nat.mul_assoc]
  omega
theorem over_end {q r b n : Nat} (h : q * b + r = n) (hr : r < b) : q = n / b ∧ r = n % b := by
  have hb : 0 < b := by omega
  subst h
  constructor
  · rw [Nat.add_comm, Nat.add_mul_div_right _ _ hb, Nat.div_eq_of_lt hr, Nat.zero_add]
  · rw [Nat.add_comm, Nat.add_mul_mod_self_right, Nat.mod_eq_of_lt hr]

/-- The text of digits. -/
def dStr (l : List Nat) : ByteArray := ⟨(l.map fun d => (48 + d).toUInt8).toArray⟩
theorem dStr_size (l : List Nat) : (dStr l).size = l.length := by show ((l.map fun d => (48 + d).toUInt8).toArray).size = _; simp
theorem dStr_toList (l : List Nat) : (dStr l).data.toList = l.map fun d => (48 + d).toUInt8 := by simp [dStr]
theorem dStr_append (a b : List Nat) : dStr a ++ dStr b = dStr (a ++ b) := by
  apply ByteArray.ext
  rw [ByteArray.data_append]
  simp [dStr]
theorem dStr_ext (l : List Nat) (a b : Nat) : (dStr l).extract a b = dStr ((l.take b).drop a) := by
  apply ByteArray.ext
  rw [ByteArray.data_extract]
  apply Array.ext'
  rw [Array.toList_extract]
  simp [dStr, List.map_drop, List.map_take, List.drop_take]
theorem dStr_inj {a b : List Nat} (ha : Digs a) (hb : Digs b) (h : dStr a = dStr b) : a = b := by
  have e : (dStr a).data.toList = (dStr b).data.toList := by rw [h]
  rw [dStr_toList, dStr_toList] at e
  clear h
  induction a generalizing b with
  | nil => cases b with
    | nil => rfl
    | cons y b => simp at e
  | cons x a ih => cases b with
    | nil => simp at e
    | cons y b =>
      simp only [List.map_cons, List.cons.injEq] at e
      have hx := ha.head
      have hy := hb.head
      have e1 : ((48 + x).toUInt8).toNat = ((48 + y).toUInt8).toNat := by rw [e.1]
      have e2 : x = y := by
        have h1 : ((48 + x).toUInt8).toNat = 48 + x := by show (48 + x) % 256 = _; omega
        have h2 : ((48 + y).toUInt8).toNat = 48 + y := by show (48 + y) % 256 = _; omega
        omega
      rw [e2, ih ha.tail hb.tail e.2]
/-- A text of digits alone is the text of its digits. -/
theorem dStr_of (s : ByteArray) (h : ∀ b ∈ s.data.toList, 48 ≤ b.toNat ∧ b.toNat ≤ 57) : ∃ l, Digs l ∧ s = dStr l := by
  refine ⟨s.data.toList.map fun b => b.toNat - 48, ?_, ?_⟩
  · intro d hd
    rw [List.mem_map] at hd
    obtain ⟨b, hb, rfl⟩ := hd
    have := h b hb
    omega
  · apply ByteArray.ext
    apply Array.ext'
    rw [dStr_toList, List.map_map]
    symm
    have : ∀ b ∈ s.data.toList, ((fun d => (48 + d).toUInt8) ∘ fun (b : UInt8) => b.toNat - 48) b = b := by
      intro b hb
      have h1 := h b hb
      apply UInt8.toNat_inj.1
      show (48 + (b.toNat - 48)) % 256 = b.toNat
      omega
    rw [List.map_congr_left this, List.map_id']
theorem dStr_get (l : List Nat) (h : Digs l) (k : Nat) (hk : k < (dStr l).size) : ((dStr l)[k]'hk).toNat = 48 + l.getD k 0 := by
  have hk' : k < l.length := by rwa [dStr_size] at hk
  have e : ((dStr l)[k]'hk) = (48 + l[k]).toUInt8 := by
    show (dStr l).data[k]'hk = _
    simp [dStr]
  rw [e, List.getD_eq_getElem?_getD, List.getElem?_eq_getElem hk']
  have h1 := h l[k] (List.getElem_mem hk')
  show (48 + l[k]) % 256 = _
  simp only [Option.getD_some]
  omega
end
section

structure Dc where
  neg : Bool
  i : List Nat
  f : List Nat
def Dc.num (d : Dc) : Nat := dVal (d.i ++ d.f)
def Dc.z (d : Dc) : Int := if d.neg then -(d.num : Int) else d.num
structure Dc.Ok (d : Dc) : Prop where
  di : Digs d.i
  df : Digs d.f
  one : 1 ≤ d.i.length
  most : d.i.length + d.f.length ≤ 40
  lead : d.i.length = 1 ∨ ∃ x, d.i.head? = some x ∧ x ≠ 0
  sign : d.neg = true → d.num ≠ 0

def padTo (k : Nat) (l : List Nat) : List Nat := List.replicate (k - l.length) 0 ++ l
theorem padTo_len (k : Nat) (l : List Nat) : (padTo k l).length = max k l.length := by
  unfold padTo
  rw [List.length_append, List.length_replicate]
  omega
theorem padTo_val (k : Nat) (l : List Nat) : dVal (padTo k l) = dVal l := by
  unfold padTo
  rw [dVal_append, dVal_zeros]
  omega
theorem padTo_digs {k : Nat} {l : List Nat} (h : Digs l) : Digs (padTo k l) := .append (.zeros _) h
theorem padTo_same {k : Nat} {l : List Nat} (h : k ≤ l.length) : padTo k l = l := by
  unfold padTo
  rw [show k - l.length = 0 by omega]
  rfl

/-- The decimal of a whole number at a scale, if it has no more than 40 digits. -/
def mk (z : Int) (s : Nat) : Option Dc :=
  if 40 < (padTo (s + 1) (digs z.natAbs)).length then none
  else some ⟨decide (z < 0), (padTo (s + 1) (digs z.natAbs)).take ((padTo (s + 1) (digs z.natAbs)).length - s), (padTo (s + 1) (digs z.natAbs)).drop ((padTo (s + 1) (digs z.natAbs)).length - s)⟩

theorem mk_none {z : Int} {s : Nat} : mk z s = none ↔ 40 ≤ s ∨ 10 ^ 40 ≤ z.natAbs := by
  have h1 := digs_le z.natAbs 40 (by omega)
  unfold mk
  rw [padTo_len]
  constructor
  · intro h
    split at h
    · omega
    · cases h
  · intro h
    rw [if_pos (by omega)]

theorem digs_head {n x : Nat} (h : (digs n).head? = some x) (h2 : 2 ≤ (digs n).length) : x ≠ 0 := by
  intro e
  subst e
  cases hd : digs n with
  | nil => rw [hd] at h; cases h
  | cons y l =>
    rw [hd] at h h2
    simp at h
    subst h
    have hg : Digs (0 :: l) := hd ▸ digs_digs n
    have e1 := dVal_digs n
    rw [hd, dVal_cons] at e1
    have e2 := dVal_lt hg.tail
    have hl1 : 1 ≤ l.length := by simpa using h2
    have e3 := (digs_le n l.length hl1).2 (by omega)
    rw [hd, List.length_cons] at e3
    omega

theorem mk_some {z : Int} {s : Nat} {d : Dc} (h : mk z s = some d) : d.z = z ∧ d.f.length = s ∧ d.Ok ∧ d.num = z.natAbs ∧ d.neg = decide (z < 0) := by
  unfold mk at h
  split at h
  · cases h
  · rename_i hn
    have hlen := padTo_len (s + 1) (digs z.natAbs)
    have hd := digs_len z.natAbs
    have hv : dVal (padTo (s + 1) (digs z.natAbs)) = z.natAbs := by rw [padTo_val, dVal_digs]
    have hg : Digs (padTo (s + 1) (digs z.natAbs)) := padTo_digs (digs_digs _)
    have hlead : (padTo (s + 1) (digs z.natAbs)).length - s = 1 ∨ padTo (s + 1) (digs z.natAbs) = digs z.natAbs ∧ 2 ≤ (digs z.natAbs).length := by
      by_cases c : s + 1 < (digs z.natAbs).length
      · exact .inr ⟨padTo_same (by omega), by omega⟩
      · exact .inl (by omega)
    generalize padTo (s + 1) (digs z.natAbs) = l at *
    have e := Option.some.inj h
    subst e
    have hnum : (⟨decide (z < 0), l.take (l.length - s), l.drop (l.length - s)⟩ : Dc).num = z.natAbs := by
      unfold Dc.num
      simp only [List.take_append_drop]
      exact hv
    refine ⟨?_, ?_, ⟨hg.take _, hg.drop _, ?_, ?_, ?_, ?_⟩, hnum, rfl⟩
    · unfold Dc.z
      rw [hnum]
      by_cases c : z < 0
      · simp only [c, decide_true, if_true]
        omega
      · simp only [c, decide_false, Bool.false_eq_true, if_false]
        omega
    · simp only [List.length_drop]
      omega
    · simp only [List.length_take]
      omega
    · simp only [List.length_take, List.length_drop]
      omega
    · rcases hlead with h1 | ⟨h1, h2⟩
      · left
        simp only [List.length_take]
        omega
      · right
        simp only
        cases hc : l with
        | nil => rw [h1] at hc; rw [hc] at h2; simp at h2
        | cons x m =>
          have h3 : (digs z.natAbs).head? = some x := by rw [← h1, hc]; rfl
          refine ⟨x, ?_, digs_head h3 h2⟩
          obtain ⟨k, hk⟩ : ∃ k, (x :: m).length - s = k + 1 := ⟨(x :: m).length - s - 1, by rw [← hc]; omega⟩
          rw [hk]
          rfl
    · intro hneg
      rw [hnum]
      have : z < 0 := by simpa using hneg
      omega

/-- A decimal that may be is that of its number at its scale. -/
theorem mk_ok {d : Dc} (h : d.Ok) : mk d.z d.f.length = some d := by
  have hab : d.z.natAbs = d.num := by
    unfold Dc.z
    split <;> omega
  have hg : Digs (d.i ++ d.f) := .append h.di h.df
  have h1 := h.one
  have h2 := h.most
  have hpad : padTo (d.f.length + 1) (digs d.z.natAbs) = d.i ++ d.f := by
    rw [hab]
    rcases h.lead with hl | ⟨x, hx, hx0⟩
    · have hlen : (d.i ++ d.f).length = d.f.length + 1 := by rw [List.length_append]; omega
      have hlt := dVal_lt hg
      rw [hlen] at hlt
      have := (digs_le d.num (d.f.length + 1) (by omega)).2 hlt
      refine dVal_inj (padTo_digs (digs_digs _)) hg ?_ ?_
      · rw [padTo_len, hlen]; omega
      · rw [padTo_val, dVal_digs]; rfl
    · have e : dLead (d.i ++ d.f) = d.i ++ d.f := by
        cases hi : d.i with
        | nil => rw [hi] at hx; cases hx
        | cons y m =>
          rw [hi] at hx
          simp at hx
          subst hx
          cases hm : m ++ d.f with
          | nil => simp only [List.cons_append, hm]; rfl
          | cons a b => simp only [List.cons_append, hm]; exact if_neg hx0
      rw [dLead_digs _ hg] at e
      have : digs d.num = d.i ++ d.f := e
      rw [this]
      exact padTo_same (by rw [List.length_append]; omega)
  unfold mk
  rw [hpad, List.length_append, if_neg (by omega)]
  have hneg : decide (d.z < 0) = d.neg := by
    unfold Dc.z
    cases hn : d.neg with
    | true =>
      have := h.sign hn
      simp only [if_true]
      exact decide_eq_true (by omega)
    | false =>
      simp only [Bool.false_eq_true, if_false]
      exact decide_eq_false (by omega)
  rw [hneg, show d.i.length + d.f.length - d.f.length = d.i.length by omega]
  simp
theorem ok_inj {a b : Dc} (ha : a.Ok) (hb : b.Ok) (hz : a.z = b.z) (hf : a.f.length = b.f.length) : a = b := by
  have e1 := mk_ok ha
  have e2 := mk_ok hb
  rw [hz, hf, e2] at e1
  exact (Option.some.inj e1).symm
theorem num_lt {d : Dc} (h : d.Ok) : d.num < 10 ^ 40 := by
  have h1 := dVal_lt (Digs.append h.di h.df)
  have h2 := h.most
  rw [List.length_append] at h1
  exact Nat.lt_of_lt_of_le h1 (Nat.pow_le_pow_right (by omega) h2)

/-- A decimal's number at a greater scale. -/
def Dc.up (d : Dc) (s : Nat) : Int := d.z * 10 ^ (s - d.f.length)
/-- Sums, differences, products, all at once: a whole number at a scale. -/
def sumD (a b : Dc) : Option Dc := mk (a.up (max a.f.length b.f.length) + b.up (max a.f.length b.f.length)) (max a.f.length b.f.length)
def subD (a b : Dc) : Option Dc := mk (a.up (max a.f.length b.f.length) - b.up (max a.f.length b.f.length)) (max a.f.length b.f.length)
def mulD (a b : Dc) : Option Dc := mk (a.z * b.z) (a.f.length + b.f.length)
def cmpD (a b : Dc) : Int := (a.up (max a.f.length b.f.length) - b.up (max a.f.length b.f.length)).sign
theorem sum_comm (a b : Dc) : sumD a b = sumD b a := by unfold sumD; rw [Nat.max_comm, Int.add_comm]
theorem mul_comm (a b : Dc) : mulD a b = mulD b a := by unfold mulD; rw [Nat.add_comm, Int.mul_comm]
/-- At a still greater scale it is that much greater. -/
theorem up_up (d : Dc) (s t : Nat) (h1 : d.f.length ≤ s) (h2 : s ≤ t) : d.up s * 10 ^ (t - s) = d.up t := by
  unfold Dc.up
  rw [Int.mul_assoc, ← Int.pow_add]
  congr 2
  omega
theorem up_of {z : Int} {s : Nat} {d : Dc} (h : mk z s = some d) (t : Nat) : d.up t = z * 10 ^ (t - s) := by
  obtain ⟨h1, h2, _⟩ := mk_some h
  unfold Dc.up
  rw [h1, h2]
theorem sum_assoc {a b c ab bc : Dc} (h1 : sumD a b = some ab) (h2 : sumD b c = some bc) : sumD ab c = sumD a bc := by
  obtain ⟨-, l1, -⟩ := mk_some h1
  obtain ⟨-, l2, -⟩ := mk_some h2
  unfold sumD
  rw [up_of h1, up_of h2, l1, l2]
  have e : max (max a.f.length b.f.length) c.f.length = max a.f.length (max b.f.length c.f.length) := Nat.max_assoc _ _ _
  rw [e]
  generalize hs : max a.f.length (max b.f.length c.f.length) = s
  rw [Int.add_mul, Int.add_mul, up_up a _ _ (by omega) (by omega), up_up b _ _ (by omega) (by omega), up_up b _ _ (by omega) (by omega), up_up c _ _ (by omega) (by omega), Int.add_assoc]
theorem mul_assoc {a b c ab bc : Dc} (h1 : mulD a b = some ab) (h2 : mulD b c = some bc) : mulD ab c = mulD a bc := by
  obtain ⟨z1, l1, -⟩ := mk_some h1
  obtain ⟨z2, l2, -⟩ := mk_some h2
  unfold mulD
  rw [z1, z2, l1, l2, Int.mul_assoc, Nat.add_assoc]
theorem ten_pos (n : Nat) : (0 : Int) < 10 ^ n := Int.pow_pos (by omega)
/-- As great: at any scale that holds both. -/
theorem cmp_zero {a b : Dc} (s : Nat) (ha : a.f.length ≤ s) (hb : b.f.length ≤ s) : cmpD a b = 0 ↔ a.up s = b.up s := by
  unfold cmpD
  rw [Int.sign_eq_zero_iff_zero]
  have e1 := up_up a (max a.f.length b.f.length) s (by omega) (by omega)
  have e2 := up_up b (max a.f.length b.f.length) s (by omega) (by omega)
  rw [← e1, ← e2]
  have hp := ten_pos (s - max a.f.length b.f.length)
  constructor
  · intro h
    rw [show a.up (max a.f.length b.f.length) = b.up (max a.f.length b.f.length) by omega]
  · intro h
    have := Int.eq_of_mul_eq_mul_right (by omega) h
    omega
/-- What was taken away is put back. -/
theorem sub_add {a b d s : Dc} (h1 : subD a b = some d) (h2 : sumD d b = some s) : cmpD s a = 0 := by
  obtain ⟨z1, l1, -⟩ := mk_some h1
  obtain ⟨z2, l2, -⟩ := mk_some h2
  rw [cmp_zero (max a.f.length b.f.length) (by omega) (by omega), up_of h2, up_of h1, l1]
  rw [show max (max a.f.length b.f.length) b.f.length = max a.f.length b.f.length by omega]
  simp only [Nat.sub_self, Int.pow_zero, Int.mul_one]
  omega
/-- A product of a sum. -/
theorem mul_sum {a b c ab ac bc x y : Dc} (h1 : sumD b c = some bc) (h2 : mulD a b = some ab) (h3 : mulD a c = some ac) (h4 : mulD a bc = some x) (h5 : sumD ab ac = some y) : cmpD x y = 0 := by
  obtain ⟨z1, l1, -⟩ := mk_some h1
  obtain ⟨z2, l2, -⟩ := mk_some h2
  obtain ⟨z3, l3, -⟩ := mk_some h3
  obtain ⟨z4, l4, -⟩ := mk_some h4
  obtain ⟨z5, l5, -⟩ := mk_some h5
  have hs : a.f.length + max b.f.length c.f.length = max (a.f.length + b.f.length) (a.f.length + c.f.length) := by omega
  rw [cmp_zero (a.f.length + max b.f.length c.f.length) (by omega) (by omega), up_of h4, up_of h5, up_of h2, up_of h3, l1, l2, l3, z1, hs]
  simp only [Nat.sub_self, Int.pow_zero, Int.mul_one]
  unfold Dc.up
  rw [Int.mul_add, ← Int.mul_assoc, ← Int.mul_assoc]
  congr 3
  · omega
  · omega
/-- One order by worth. -/
theorem cmp_sign (a b : Dc) (s : Nat) (ha : a.f.length ≤ s) (hb : b.f.length ≤ s) : cmpD a b = (a.up s - b.up s).sign := by
  unfold cmpD
  have e1 := up_up a (max a.f.length b.f.length) s (by omega) (by omega)
  have e2 := up_up b (max a.f.length b.f.length) s (by omega) (by omega)
  rw [← e1, ← e2, ← Int.sub_mul, Int.sign_mul, Int.sign_eq_one_of_pos (ten_pos _), Int.mul_one]
theorem cmp_neg (a b : Dc) : cmpD b a = -cmpD a b := by
  rw [cmp_sign a b (max a.f.length b.f.length) (by omega) (by omega), cmp_sign b a (max a.f.length b.f.length) (by omega) (by omega), ← Int.sign_neg]
  congr 1
  omega
theorem cmp_range (a b : Dc) : -1 ≤ cmpD a b ∧ cmpD a b ≤ 1 := by
  unfold cmpD
  generalize a.up _ - b.up _ = x
  rcases Int.lt_trichotomy x 0 with h | h | h
  · rw [Int.sign_eq_neg_one_of_neg h]; omega
  · rw [h]; decide
  · rw [Int.sign_eq_one_of_pos h]; omega
theorem cmp_le_iff (a b : Dc) (s : Nat) (ha : a.f.length ≤ s) (hb : b.f.length ≤ s) : (cmpD a b ≤ 0 ↔ a.up s ≤ b.up s) ∧ (cmpD a b = 0 ↔ a.up s = b.up s) := by
  refine ⟨?_, cmp_zero s ha hb⟩
  rw [cmp_sign a b s ha hb]
  generalize a.up s = x
  generalize b.up s = y
  rcases Int.lt_trichotomy (x - y) 0 with h | h | h
  · rw [Int.sign_eq_neg_one_of_neg h]; omega
  · rw [h]; simp; omega
  · rw [Int.sign_eq_one_of_pos h]; omega
theorem cmp_trans (a b c : Dc) (h1 : cmpD a b ≤ 0) (h2 : cmpD b c ≤ 0) : cmpD a c ≤ 0 ∧ (cmpD a c = 0 → cmpD a b = 0 ∧ cmpD b c = 0) := by
  have l1 := cmp_le_iff a b (max a.f.length (max b.f.length c.f.length)) (by omega) (by omega)
  have l2 := cmp_le_iff b c (max a.f.length (max b.f.length c.f.length)) (by omega) (by omega)
  have l3 := cmp_le_iff a c (max a.f.length (max b.f.length c.f.length)) (by omega) (by omega)
  generalize max a.f.length (max b.f.length c.f.length) = s at *
  have h1' := l1.1.1 h1
  have h2' := l2.1.1 h2
  refine ⟨l3.1.2 (by omega), fun h => ?_⟩
  have h3 := l3.2.1 h
  exact ⟨l1.2.2 (by omega), l2.2.2 (by omega)⟩
def dcZero : Dc := ⟨false, [0], []⟩
/-- A difference stands to 0 as its two stand to one another. -/
theorem sub_cmp {a b d : Dc} (h : subD a b = some d) : cmpD d dcZero = cmpD a b := by
  obtain ⟨z1, l1, -⟩ := mk_some h
  rw [cmp_sign d dcZero (max a.f.length b.f.length) (by omega) (by simp [dcZero]), up_of h]
  have e : dcZero.up (max a.f.length b.f.length) = 0 := by
    unfold Dc.up
    have : dcZero.z = 0 := rfl
    rw [this, Int.zero_mul]
  rw [e, Nat.sub_self, Int.pow_zero, Int.mul_one, Int.sub_zero]
  rfl

/-- Quotient and what is left, towards 0. -/
def quoD (a b : Dc) : Option Dc := mk ((a.up (max a.f.length b.f.length)).tdiv (b.up (max a.f.length b.f.length))) 0
def remD (a b : Dc) : Option Dc := mk ((a.up (max a.f.length b.f.length)).tmod (b.up (max a.f.length b.f.length))) (max a.f.length b.f.length)
theorem quo_rem {a b q r p s : Dc} (h1 : quoD a b = some q) (h2 : remD a b = some r) (h3 : mulD q b = some p) (h4 : sumD p r = some s) : cmpD s a = 0 := by
  obtain ⟨z1, l1, -⟩ := mk_some h1
  obtain ⟨z2, l2, -⟩ := mk_some h2
  obtain ⟨z3, l3, -⟩ := mk_some h3
  obtain ⟨z4, l4, -⟩ := mk_some h4
  have hs : max p.f.length r.f.length = max a.f.length b.f.length := by omega
  rw [hs] at z4 l4
  rw [cmp_zero (max a.f.length b.f.length) (by omega) (by omega)]
  have e1 : s.up (max a.f.length b.f.length) = s.z := by unfold Dc.up; rw [l4, Nat.sub_self, Int.pow_zero, Int.mul_one]
  have e2 : p.up (max a.f.length b.f.length) = q.z * b.up (max a.f.length b.f.length) := by
    unfold Dc.up
    rw [z3, l3, l1, Nat.zero_add, Int.mul_assoc]
  have e3 : r.up (max a.f.length b.f.length) = r.z := by unfold Dc.up; rw [l2, Nat.sub_self, Int.pow_zero, Int.mul_one]
  rw [e1, z4, e2, e3, z1, z2, Int.mul_comm]
  exact Int.mul_tdiv_add_tmod _ _
/-- What is left always has room, is less than what was divided by, and has the sign of what was divided. -/
theorem rem_small {x y : Int} (hy : y ≠ 0) : (x.tmod y).natAbs < y.natAbs ∧ (x.tmod y).natAbs ≤ x.natAbs ∧ (x.tmod y < 0 → x < 0) ∧ (0 < x.tmod y → 0 < x) := by
  have h1 : (x.tmod y).natAbs = x.natAbs % y.natAbs := Int.natAbs_tmod _ _
  have hp : 0 < y.natAbs := by omega
  refine ⟨by rw [h1]; exact Nat.mod_lt _ hp, by rw [h1]; exact Nat.mod_le _ _, fun h => ?_, fun h => ?_⟩
  · rcases Int.lt_or_le x 0 with c | c
    · exact c
    · have := Int.tmod_nonneg y c; omega
  · rcases Int.lt_or_le 0 x with c | c
    · exact c
    · have h2 := Int.tmod_nonneg y (show 0 ≤ -x by omega)
      rw [Int.neg_tmod] at h2
      omega
/-- Both moved alike leave what was left, moved alike. -/
theorem rem_scale (x y t : Int) (ht : 0 < t) : (x * t).tmod (y * t) = x.tmod y * t := by
  rw [Int.tmod_def, Int.tmod_def, Int.mul_tdiv_mul_of_pos_left _ _ ht, Int.sub_mul]
  congr 1
  rw [Int.mul_assoc, Int.mul_assoc, Int.mul_comm t]
theorem z_lt {d : Dc} (h : d.Ok) : d.z.natAbs < 10 ^ 40 := by
  have := num_lt h
  unfold Dc.z
  split <;> omega
theorem f_lt {d : Dc} (h : d.Ok) : d.f.length < 40 := by
  have h1 := h.one
  have h2 := h.most
  omega
theorem up_same {d : Dc} : d.up d.f.length = d.z := by unfold Dc.up; rw [Nat.sub_self, Int.pow_zero, Int.mul_one]
theorem up_zero {d : Dc} (s : Nat) : d.up s = 0 ↔ d.z = 0 := by
  unfold Dc.up
  have := ten_pos (s - d.f.length)
  constructor
  · intro h
    rcases Int.mul_eq_zero.1 h with h | h
    · exact h
    · omega
  · intro h
    rw [h, Int.zero_mul]
/-- There is always room for what is left. -/
theorem rem_room {a b : Dc} (ha : a.Ok) (hb : b.Ok) (h0 : b.z ≠ 0) : ∃ r, remD a b = some r := by
  cases hr : remD a b with
  | some r => exact ⟨r, rfl⟩
  | none =>
    exfalso
    have h1 := mk_none.1 hr
    have hy : b.up (max a.f.length b.f.length) ≠ 0 := fun h => h0 ((up_zero _).1 h)
    have h2 := rem_small (x := a.up (max a.f.length b.f.length)) hy
    have f1 := f_lt ha
    have f2 := f_lt hb
    rcases h1 with h1 | h1
    · omega
    · rcases Nat.le_total a.f.length b.f.length with c | c
      · have e : b.up (max a.f.length b.f.length) = b.z := by rw [Nat.max_eq_right c]; exact up_same
        have := z_lt hb
        rw [e] at h2 h1
        omega
      · have e : a.up (max a.f.length b.f.length) = a.z := by rw [Nat.max_eq_left c]; exact up_same
        have := z_lt ha
        rw [e] at h2 h1
        omega
theorem rem_up {a b r : Dc} (h : remD a b = some r) (s : Nat) (ha : a.f.length ≤ s) (hb : b.f.length ≤ s) : r.up s = (a.up s).tmod (b.up s) := by
  rw [up_of h, ← up_up a (max a.f.length b.f.length) s (by omega) (by omega), ← up_up b (max a.f.length b.f.length) s (by omega) (by omega), rem_scale _ _ _ (ten_pos _)]

/-- Moved by a power of ten. -/
def shD (d : Dc) (n : Int) : Option Dc := if (d.f.length : Int) < n then mk (d.z * 10 ^ (n - d.f.length).toNat) 0 else mk d.z ((d.f.length : Int) - n).toNat
theorem sh_up {d x : Dc} {n : Int} (h : shD d n = some x) (s : Nat) (h1 : d.f.length ≤ s) (h2 : x.f.length ≤ s) : x.up s * 10 ^ (-n).toNat = d.up s * 10 ^ n.toNat := by
  unfold shD at h
  split at h
  · rename_i hn
    rw [up_of h]
    unfold Dc.up
    rw [Int.mul_assoc, Int.mul_assoc, Int.mul_assoc, ← Int.pow_add, ← Int.pow_add, ← Int.pow_add]
    congr 2
    omega
  · rename_i hn
    obtain ⟨-, l, -⟩ := mk_some h
    rw [up_of h]
    unfold Dc.up
    rw [Int.mul_assoc, Int.mul_assoc, ← Int.pow_add, ← Int.pow_add]
    congr 2
    omega
theorem mul_ten_inj {x y : Int} (k : Nat) (h : x * 10 ^ k = y * 10 ^ k) : x = y := Int.eq_of_mul_eq_mul_right (by have := ten_pos k; omega) h
/-- Moved there and back. -/
theorem sh_back {d x y : Dc} {n : Int} (h1 : shD d n = some x) (h2 : shD x (-n) = some y) : cmpD y d = 0 := by
  rw [cmp_zero (max d.f.length (max x.f.length y.f.length)) (by omega) (by omega)]
  have e1 := sh_up h1 (max d.f.length (max x.f.length y.f.length)) (by omega) (by omega)
  have e2 := sh_up h2 (max d.f.length (max x.f.length y.f.length)) (by omega) (by omega)
  rw [Int.neg_neg] at e2
  generalize max d.f.length (max x.f.length y.f.length) = s at *
  by_cases c : 0 ≤ n
  · have z : (-n).toNat = 0 := by omega
    rw [z, Int.pow_zero, Int.mul_one] at e1 e2
    rw [e1] at e2
    exact mul_ten_inj _ e2
  · have z : n.toNat = 0 := by omega
    rw [z, Int.pow_zero, Int.mul_one] at e1 e2
    rw [e2, e1]
/-- What is left of both moved alike. -/
theorem sh_rem {a b r c d u v : Dc} {n : Int} (hr : remD a b = some r) (hc : shD a n = some c) (hd : shD b n = some d) (hu : remD c d = some u) (hv : shD r n = some v) : cmpD u v = 0 := by
  obtain ⟨-, lr, -⟩ := mk_some hr
  obtain ⟨-, lu, -⟩ := mk_some hu
  generalize hs : max (max a.f.length b.f.length) (max (max c.f.length d.f.length) v.f.length) = s
  rw [cmp_zero s (by omega) (by omega)]
  have e1 := sh_up hc s (by omega) (by omega)
  have e2 := sh_up hd s (by omega) (by omega)
  have e3 := sh_up hv s (by omega) (by omega)
  have e4 := rem_up hr s (by omega) (by omega)
  have e5 := rem_up hu s (by omega) (by omega)
  refine mul_ten_inj (-n).toNat ?_
  rw [e5, ← rem_scale _ _ _ (ten_pos _), e1, e2, rem_scale _ _ _ (ten_pos _), ← e4, e3]

/-- Without noughts at the end. -/
def Trimmed (d : Dc) : Prop := d.f = [] ∨ ∃ x, d.f.getLast? = some x ∧ x ≠ 0
theorem num_mod {d : Dc} (h : d.Ok) {x : Nat} (hx : d.f.getLast? = some x) : d.num % 10 = x := by
  have hne : d.f ≠ [] := by intro e; rw [e] at hx; cases hx
  have e : d.f = d.f.dropLast ++ [x] := by
    have h1 := List.dropLast_concat_getLast hne
    rw [List.getLast?_eq_some_getLast hne] at hx
    rw [← Option.some.inj hx]
    exact h1.symm
  unfold Dc.num
  rw [e, ← List.append_assoc, dVal_snoc]
  have : x < 10 := h.df x (List.mem_of_getLast? hx)
  omega
/-- Two that are as great and have no noughts at the end are the same. -/
theorem trimmed_same {a b : Dc} (ha : a.Ok) (hb : b.Ok) (ta : Trimmed a) (tb : Trimmed b) (h : cmpD a b = 0) : a = b := by
  have key : ∀ {a b : Dc}, a.Ok → b.Ok → Trimmed b → cmpD a b = 0 → b.f.length ≤ a.f.length := by
    intro a b ha hb tb h
    rcases Nat.lt_or_ge a.f.length b.f.length with c | c
    · exfalso
      rcases tb with tb | ⟨x, hx, hx0⟩
      · rw [tb] at c
        simp at c
      · have e := (cmp_zero b.f.length (by omega) (Nat.le_refl _)).1 h
        rw [up_same] at e
        have hm := num_mod hb hx
        obtain ⟨k, hk⟩ : ∃ k, b.f.length - a.f.length = k + 1 := ⟨b.f.length - a.f.length - 1, by omega⟩
        unfold Dc.up at e
        rw [hk, Int.pow_succ, ← Int.mul_assoc] at e
        have hb2 : b.z = b.num ∨ b.z = -(b.num : Int) := by unfold Dc.z; split <;> simp
        have hb10 : b.num < 10 ∨ 10 ≤ b.num := by omega
        generalize a.z * 10 ^ k = y at e
        have hx9 : x < 10 := hb.df x (List.mem_of_getLast? hx)
        omega
    · exact c
  have l1 := key ha hb tb h
  have h' : cmpD b a = 0 := by rw [cmp_neg, h]; rfl
  have l2 := key hb ha ta h'
  have hl : a.f.length = b.f.length := by omega
  refine ok_inj ha hb ?_ hl
  have e := (cmp_zero a.f.length (Nat.le_refl _) (by omega)).1 h
  rw [up_same] at e
  rw [e, hl, up_same]
/-- The last nought taken away. -/
theorem trim_step {d e : Dc} (h : d.Ok) (hf : d.f = e.f ++ [0]) (hi : e.i = d.i) (hn : e.neg = d.neg) : e.Ok ∧ cmpD e d = 0 := by
  have hnum : d.num = e.num * 10 := by
    unfold Dc.num
    rw [hf, hi, ← List.append_assoc, dVal_snoc, Nat.add_zero]
  have hl : d.f.length = e.f.length + 1 := by rw [hf]; simp
  have hm := h.most
  refine ⟨⟨by rw [hi]; exact h.di, by have := h.df; rw [hf] at this; exact this.left, by rw [hi]; exact h.one, by rw [hi]; omega, by rw [hi]; exact h.lead, fun hs => ?_⟩, ?_⟩
  · have := h.sign (by rw [← hn]; exact hs)
    omega
  · rw [cmp_zero d.f.length (by omega) (Nat.le_refl _), up_same]
    unfold Dc.up Dc.z
    rw [hn, hnum, hl, show e.f.length + 1 - e.f.length = 1 by omega]
    split
    · omega
    · omega
/-- A decimal out of a sign and a number. -/
def mkN (neg : Bool) (n s : Nat) : Option Dc := mk (if neg then -(n : Int) else n) s
/-- A decimal's number at a greater scale, without its sign. -/
def Dc.raised (d : Dc) (s : Nat) : Nat := d.num * 10 ^ (s - d.f.length)
theorem up_raised (d : Dc) (s : Nat) : d.up s = if d.neg then -(d.raised s : Int) else d.raised s := by
  unfold Dc.up Dc.z Dc.raised
  split
  · rw [Int.neg_mul, Int.natCast_mul, Int.natCast_pow]; rfl
  · rw [Int.natCast_mul, Int.natCast_pow]; rfl
theorem sum_same {a b : Dc} {s : Nat} (hs : s = max a.f.length b.f.length) (h : a.neg = b.neg) : mkN b.neg (a.raised s + b.raised s) s = sumD a b := by
  unfold sumD mkN
  rw [← hs, up_raised, up_raised, h]
  congr 1
  split <;> omega
theorem sum_first {a b : Dc} {s : Nat} (hs : s = max a.f.length b.f.length) (h : a.neg ≠ b.neg) (hle : b.raised s ≤ a.raised s) : mkN a.neg (a.raised s - b.raised s) s = sumD a b := by
  unfold sumD mkN
  rw [← hs, up_raised, up_raised]
  congr 1
  cases ha : a.neg <;> cases hb : b.neg <;> simp_all <;> omega
theorem sum_second {a b : Dc} {s : Nat} (hs : s = max a.f.length b.f.length) (h : a.neg ≠ b.neg) (hle : a.raised s ≤ b.raised s) : mkN b.neg (b.raised s - a.raised s) s = sumD a b := by
  unfold sumD mkN
  rw [← hs, up_raised, up_raised]
  congr 1
  cases ha : a.neg <;> cases hb : b.neg <;> simp_all <;> omega
theorem sub_same {a b : Dc} {s : Nat} (hs : s = max a.f.length b.f.length) (h : a.neg ≠ b.neg) : mkN a.neg (a.raised s + b.raised s) s = subD a b := by
  unfold subD mkN
  rw [← hs, up_raised, up_raised]
  congr 1
  cases ha : a.neg <;> cases hb : b.neg <;> simp_all <;> omega
theorem sub_first {a b : Dc} {s : Nat} (hs : s = max a.f.length b.f.length) (h : a.neg = b.neg) (hle : b.raised s ≤ a.raised s) : mkN a.neg (a.raised s - b.raised s) s = subD a b := by
  unfold subD mkN
  rw [← hs, up_raised, up_raised]
  congr 1
  cases ha : a.neg <;> cases hb : b.neg <;> simp_all <;> omega
theorem sub_second {a b : Dc} {s : Nat} (hs : s = max a.f.length b.f.length) (h : a.neg = b.neg) (hle : a.raised s ≤ b.raised s) : mkN (!b.neg) (b.raised s - a.raised s) s = subD a b := by
  unfold subD mkN
  rw [← hs, up_raised, up_raised]
  congr 1
  cases ha : a.neg <;> cases hb : b.neg <;> simp_all <;> omega
theorem mul_ref (a b : Dc) : mkN (a.neg != b.neg) (a.num * b.num) (a.f.length + b.f.length) = mulD a b := by
  unfold mulD mkN Dc.z
  congr 1
  cases ha : a.neg <;> cases hb : b.neg <;> simp [Int.natCast_mul, Int.neg_mul, Int.mul_neg]
theorem quo_ref (a b : Dc) {s : Nat} (hs : s = max a.f.length b.f.length) : mkN (a.neg != b.neg) (a.raised s / b.raised s) 0 = quoD a b := by
  unfold quoD mkN
  rw [← hs, up_raised, up_raised]
  congr 1
  have e : ((a.raised s : Int)).tdiv (b.raised s) = ((a.raised s / b.raised s : Nat) : Int) := rfl
  cases ha : a.neg <;> cases hb : b.neg <;> simp [Int.neg_tdiv, Int.tdiv_neg, e]
theorem rem_ref (a b : Dc) {s : Nat} (hs : s = max a.f.length b.f.length) : mkN a.neg (a.raised s % b.raised s) s = remD a b := by
  unfold remD mkN
  rw [← hs, up_raised, up_raised]
  congr 1
  have e : ((a.raised s : Int)).tmod (b.raised s) = ((a.raised s % b.raised s : Nat) : Int) := rfl
  cases ha : a.neg <;> cases hb : b.neg <;> simp [Int.neg_tmod, Int.tmod_neg, e]
def cmpN (x y : Nat) : Int := if x < y then -1 else if x = y then 0 else 1
theorem cmp_ref (a b : Dc) {s : Nat} (hs : s = max a.f.length b.f.length) (ha : a.neg = true → a.num ≠ 0) (hb : b.neg = true → b.num ≠ 0) :
    cmpD a b = if a.neg && b.neg then -cmpN (a.raised s) (b.raised s) else if a.neg then -1 else if b.neg then 1 else cmpN (a.raised s) (b.raised s) := by
  have pa : a.neg = true → 0 < a.raised s := fun h => Nat.mul_pos (Nat.pos_of_ne_zero (ha h)) (Nat.pow_pos (by omega))
  have pb : b.neg = true → 0 < b.raised s := fun h => Nat.mul_pos (Nat.pos_of_ne_zero (hb h)) (Nat.pow_pos (by omega))
  have sg : ∀ x : Int, x.sign = if x < 0 then -1 else if x = 0 then 0 else 1 := by
    intro x
    rcases Int.lt_trichotomy x 0 with h | h | h
    · rw [if_pos h, Int.sign_eq_neg_one_of_neg h]
    · rw [if_neg (by omega), if_pos h, h]; rfl
    · rw [if_neg (by omega), if_neg (by omega), Int.sign_eq_one_of_pos h]
  unfold cmpD cmpN
  rw [← hs, up_raised, up_raised, sg]
  generalize a.raised s = x at *
  generalize b.raised s = y at *
  cases hna : a.neg with
  | true =>
    have pa' := pa hna
    cases hnb : b.neg with
    | true =>
      simp only [Bool.and_self, if_true]
      (repeat' split) <;> omega
    | false =>
      simp only [Bool.and_false, Bool.false_eq_true, if_false, if_true]
      (repeat' split) <;> omega
  | false =>
    cases hnb : b.neg with
    | true =>
      have pb' := pb hnb
      simp only [Bool.and_true, Bool.false_eq_true, if_false, if_true]
      (repeat' split) <;> omega
    | false =>
      simp only [Bool.and_self, Bool.false_eq_true, if_false]
      (repeat' split) <;> omega
/-- The number of a decimal at a greater scale, as the text of its digits with noughts behind. -/
theorem raised_digs (d : Dc) (s : Nat) : dVal (d.i ++ d.f ++ List.replicate (s - d.f.length) 0) = d.raised s := by
  rw [dVal_append, dVal_zeros, List.length_replicate, Nat.add_zero]
  rfl
/-- A number's digits, with noughts ahead where it has too few, cut at its scale. -/
theorem mkN_digs (neg : Bool) (n s : Nat) : mkN neg n s = if 40 < (padTo (s + 1) (digs n)).length then none else some ⟨neg && decide (n ≠ 0), (padTo (s + 1) (digs n)).take ((padTo (s + 1) (digs n)).length - s), (padTo (s + 1) (digs n)).drop ((padTo (s + 1) (digs n)).length - s)⟩ := by
  unfold mkN mk
  have e1 : (if neg = true then -(n : Int) else n).natAbs = n := by split <;> omega
  have e2 : decide ((if neg = true then -(n : Int) else n) < 0) = (neg && decide (n ≠ 0)) := by
    cases neg with
    | true =>
      by_cases h : n = 0
      · subst h; rfl
      · rw [decide_eq_true h]
        exact decide_eq_true (by simp only [if_true]; omega)
    | false => exact decide_eq_false (by simp only [Bool.false_eq_true, if_false]; omega)
  rw [e1, e2]
end
section

def isD (b : UInt8) : Bool := decide (48 ≤ b.toNat ∧ b.toNat ≤ 57)
/-- The bytes of digits. -/
def dB (l : List Nat) : List UInt8 := l.map fun d => (48 + d).toUInt8
/-- The digits of bytes. -/
def dN (l : List UInt8) : List Nat := l.map fun b => b.toNat - 48
theorem byte_nat {d : Nat} (h : d < 10) : ((48 + d).toUInt8).toNat = 48 + d := by show (48 + d) % 256 = _; omega
theorem dB_isD {l : List Nat} (h : Digs l) : ∀ b ∈ dB l, isD b = true := by
  intro b hb
  unfold dB at hb
  rw [List.mem_map] at hb
  obtain ⟨d, hd, rfl⟩ := hb
  have := h d hd
  unfold isD
  rw [byte_nat this]
  exact decide_eq_true (by omega)
theorem dN_digs {l : List UInt8} (h : ∀ b ∈ l, isD b = true) : Digs (dN l) := by
  intro d hd
  unfold dN at hd
  rw [List.mem_map] at hd
  obtain ⟨b, hb, rfl⟩ := hd
  have := of_decide_eq_true (h b hb)
  omega
theorem dB_dN {l : List UInt8} (h : ∀ b ∈ l, isD b = true) : dB (dN l) = l := by
  induction l with
  | nil => rfl
  | cons b l ih =>
    have h1 := of_decide_eq_true (h b (by simp))
    have h2 := ih fun x hx => h x (by simp [hx])
    have e : (48 + (b.toNat - 48)).toUInt8 = b := by
      apply UInt8.toNat_inj.1
      rw [byte_nat (by omega)]
      omega
    simp only [dN, dB, List.map_cons] at h2 ⊢
    rw [e, h2]
theorem dN_dB {l : List Nat} (h : Digs l) : dN (dB l) = l := by
  induction l with
  | nil => rfl
  | cons d l ih =>
    have h2 := ih h.tail
    simp only [dN, dB, List.map_cons] at h2 ⊢
    rw [h2, byte_nat h.head, show 48 + d - 48 = d by omega]
theorem dB_len (l : List Nat) : (dB l).length = l.length := by unfold dB; simp
theorem dN_len (l : List UInt8) : (dN l).length = l.length := by unfold dN; simp
theorem dB_append (a b : List Nat) : dB (a ++ b) = dB a ++ dB b := by unfold dB; simp
theorem dN_append (a b : List UInt8) : dN (a ++ b) = dN a ++ dN b := by unfold dN; simp

/-- A decimal as it is handed over: any bytes. -/
structure Rw where
  neg : Bool
  i : List UInt8
  f : List UInt8
def Dc.rw (d : Dc) : Rw := ⟨d.neg, dB d.i, dB d.f⟩
def allD (l : List UInt8) : Bool := l.all isD
def all0 (l : List UInt8) : Bool := l.all fun b => decide (b.toNat = 48)
/-- May it be? -/
def ckB (r : Rw) : Bool :=
  decide (1 ≤ r.i.length ∧ r.i.length + r.f.length ≤ 40) && allD r.i && allD r.f && !(decide (1 < r.i.length) && all0 (r.i.take 1)) && !(r.neg && all0 r.i && all0 r.f)
theorem all0_iff {l : List UInt8} (h : ∀ b ∈ l, isD b = true) : all0 l = true ↔ dVal (dN l) = 0 := by
  induction l with
  | nil => simp [all0, dN, dVal, rVal]
  | cons b l ih =>
    have h1 := of_decide_eq_true (h b (by simp))
    have ih' := ih fun x hx => h x (by simp [hx])
    have e : dVal (dN (b :: l)) = (b.toNat - 48) * 10 ^ l.length + dVal (dN l) := by
      have := dVal_cons (b.toNat - 48) (dN l)
      rw [dN_len] at this
      exact this
    have hp : 0 < 10 ^ l.length := Nat.pow_pos (by omega)
    rw [e]
    simp only [all0, List.all_cons, Bool.and_eq_true, decide_eq_true_eq] at ih' ⊢
    rw [ih']
    constructor
    · rintro ⟨h2, h3⟩
      rw [h2, h3]
      simp
    · intro h2
      have h3 : dVal (dN l) = 0 := by omega
      have h4 : (b.toNat - 48) * 10 ^ l.length = 0 := by omega
      rcases Nat.mul_eq_zero.1 h4 with h5 | h5
      · exact ⟨by omega, h3⟩
      · omega
theorem ck_iff (r : Rw) : ckB r = true ↔ ∃ d : Dc, d.Ok ∧ r = d.rw := by
  constructor
  · intro h
    unfold ckB at h
    simp only [Bool.and_eq_true, Bool.not_eq_true', decide_eq_true_eq, allD, List.all_eq_true] at h
    obtain ⟨⟨⟨⟨hl, hi⟩, hf⟩, hz⟩, hs⟩ := h
    refine ⟨⟨r.neg, dN r.i, dN r.f⟩, ⟨dN_digs hi, dN_digs hf, by rw [dN_len]; exact hl.1, by rw [dN_len, dN_len]; exact hl.2, ?_, ?_⟩, ?_⟩
    · rw [dN_len]
      by_cases c : 1 < r.i.length
      · right
        cases hr : r.i with
        | nil => rw [hr] at c; simp at c
        | cons b m =>
          rw [hr] at hz c hi
          have h1 := of_decide_eq_true (hi b (by simp))
          simp only [c, decide_true, Bool.true_and, all0, List.take_succ_cons, List.take_zero, List.all_cons, List.all_nil, Bool.and_true, decide_eq_false_iff_not] at hz
          exact ⟨b.toNat - 48, rfl, by omega⟩
      · left; omega
    · intro hn h0
      have h0' : dVal (dN r.i ++ dN r.f) = 0 := h0
      rw [← dN_append] at h0'
      have h3 := (all0_iff (l := r.i ++ r.f) (fun b hb => by rcases List.mem_append.1 hb with hb | hb; exact hi b hb; exact hf b hb)).2 h0'
      simp only [all0, List.all_append, Bool.and_eq_true] at h3
      have hn' : r.neg = true := hn
      simp only [all0, hn', h3.1, h3.2, Bool.and_self] at hs
      cases hs
    · unfold Dc.rw
      rw [dB_dN hi, dB_dN hf]
  · rintro ⟨d, h, rfl⟩
    unfold ckB Dc.rw
    have h1 := h.one
    have h2 := h.most
    have hi := dB_isD h.di
    have hf := dB_isD h.df
    simp only [Bool.and_eq_true, Bool.not_eq_true', decide_eq_true_eq, allD, List.all_eq_true, dB_len]
    refine ⟨⟨⟨⟨⟨h1, h2⟩, hi⟩, hf⟩, ?_⟩, ?_⟩
    · rcases h.lead with hl | ⟨x, hx, hx0⟩
      · rw [hl]; rfl
      · cases hc : d.i with
        | nil => rw [hc] at hx; cases hx
        | cons y m =>
          rw [hc] at hx
          simp at hx
          subst hx
          have hy : y < 10 := h.di y (by rw [hc]; simp)
          have e : all0 ((dB (y :: m)).take 1) = false := by
            simp only [dB, all0, List.map_cons, List.take_succ_cons, List.take_zero, List.all_cons, List.all_nil, Bool.and_true]
            rw [byte_nat hy]
            exact decide_eq_false (by omega)
          rw [e, Bool.and_false]
    · cases hn : d.neg with
      | false => rfl
      | true =>
        have h0 := h.sign hn
        rw [Bool.true_and]
        cases hz : (all0 (dB d.i) && all0 (dB d.f)) with
        | false => rfl
        | true =>
          exfalso
          rw [Bool.and_eq_true] at hz
          have h3 : all0 (dB d.i ++ dB d.f) = true := by simp only [all0, List.all_append, Bool.and_eq_true]; exact hz
          have h4 := (all0_iff (fun b hb => by rcases List.mem_append.1 hb with hb | hb; exact hi b hb; exact hf b hb)).1 h3
          rw [dN_append, dN_dB h.di, dN_dB h.df] at h4
          exact h0 h4

/-- The text. -/
def txt (r : Rw) : List UInt8 := (if r.neg then [45] else []) ++ r.i ++ (if r.f = [] then [] else 46 :: r.f)
/-- What is read of a text: the decimal, or the error. -/
def rdB (neg : Bool) (t : List UInt8) : Rw × Int :=
  let i := t.takeWhile isD
  let o : Option (List UInt8) := match t.dropWhile isD with
    | [] => some []
    | c :: f => if c = 46 ∧ f ≠ [] then some f else none
  match o with
  | none => (⟨false, [], []⟩, 20)
  | some f =>
    if i = [] ∨ (decide (1 < i.length) && all0 (i.take 1)) = true ∨ allD f = false ∨ (neg && all0 i && all0 f) = true then (⟨false, [], []⟩, 20)
    else if 40 < i.length + f.length then (⟨false, [], []⟩, 3) else (⟨neg, i, f⟩, 0)
def prs (l : List UInt8) : Rw × Int := if 65536 < l.length then (⟨false, [], []⟩, 2) else match l with
  | 45 :: t => rdB true t
  | t => rdB false t
theorem span_digits {a b : List UInt8} (ha : ∀ x ∈ a, isD x = true) (hb : b = [] ∨ ∃ c t, b = c :: t ∧ isD c = false) : (a ++ b).takeWhile isD = a ∧ (a ++ b).dropWhile isD = b := by
  induction a with
  | nil =>
    rcases hb with rfl | ⟨c, t, rfl, hc⟩
    · exact ⟨rfl, rfl⟩
    · simp [hc]
  | cons x a ih =>
    have hx := ha x (by simp)
    have := ih fun y hy => ha y (by simp [hy])
    simp [hx, this.1, this.2]
theorem rd_back {d : Dc} (h : d.Ok) : rdB d.neg (dB d.i ++ (if dB d.f = [] then [] else 46 :: dB d.f)) = (d.rw, 0) := by
  have hk := (ck_iff d.rw).2 ⟨d, h, rfl⟩
  unfold ckB Dc.rw at hk
  simp only [Bool.and_eq_true, Bool.not_eq_true', decide_eq_true_eq] at hk
  obtain ⟨⟨⟨⟨hl, hi⟩, hf⟩, hz⟩, hs⟩ := hk
  have hsp := span_digits (b := if dB d.f = [] then [] else 46 :: dB d.f) (dB_isD h.di) (by
    by_cases c : dB d.f = []
    · rw [if_pos c]; exact .inl rfl
    · rw [if_neg c]; exact .inr ⟨46, _, rfl, by decide⟩)
  unfold rdB
  rw [hsp.1, hsp.2]
  have hne : dB d.i ≠ [] := fun e => by rw [e] at hl; simp at hl
  have ho : (match (if dB d.f = [] then [] else 46 :: dB d.f) with
    | [] => some []
    | c :: f => if c = 46 ∧ f ≠ [] then some f else none : Option (List UInt8)) = some (dB d.f) := by
    by_cases c : dB d.f = []
    · rw [if_pos c, c]
    · rw [if_neg c]; simp [c]
  simp only [ho]
  rw [if_neg, if_neg (by omega)]
  · rfl
  · rintro (h1 | h1 | h1 | h1)
    · exact hne h1
    · rw [hz] at h1; cases h1
    · rw [hf] at h1; cases h1
    · rw [hs] at h1; cases h1
/-- What is told of a decimal is read as it. -/
theorem prs_txt {d : Dc} (h : d.Ok) : prs (txt d.rw) = (d.rw, 0) := by
  have hb := rd_back h
  have h1 := h.one
  have h2 := h.most
  have hlen : (txt d.rw).length ≤ 65536 := by
    unfold txt Dc.rw
    simp only [List.length_append, dB_len]
    split <;> split <;> simp [dB_len] <;> omega
  unfold prs
  rw [if_neg (by omega)]
  have e : txt d.rw = (if d.neg then [45] else []) ++ (dB d.i ++ (if dB d.f = [] then [] else 46 :: dB d.f)) := by
    unfold txt Dc.rw
    rw [List.append_assoc]
  rw [e]
  cases hn : d.neg with
  | true =>
    rw [hn] at hb
    exact hb
  | false =>
    rw [hn] at hb
    cases hc : dB d.i with
    | nil => have := dB_len d.i; rw [hc] at this; simp at this; omega
    | cons x m =>
      have hx := of_decide_eq_true (dB_isD h.di x (by rw [hc]; simp))
      rw [hc] at hb
      simp only [Bool.false_eq_true, if_false, List.nil_append, List.cons_append] at hb ⊢
      split
      · rename_i t ht
        simp only [List.cons.injEq] at ht
        rw [ht.1] at hx
        simp at hx
      · exact hb
theorem span_all (t : List UInt8) : t.takeWhile isD ++ t.dropWhile isD = t := List.takeWhile_append_dropWhile
theorem take_isD (t : List UInt8) : ∀ b ∈ t.takeWhile isD, isD b = true := by
  induction t with
  | nil => intro b hb; cases hb
  | cons c t ih =>
    intro b hb
    by_cases hc : isD c = true
    · rw [List.takeWhile_cons_of_pos hc] at hb
      rcases List.mem_cons.1 hb with rfl | hb
      · exact hc
      · exact ih b hb
    · rw [List.takeWhile_cons_of_neg hc] at hb
      cases hb
theorem rd_ok {neg : Bool} {t : List UInt8} {r : Rw} (h : rdB neg t = (r, 0)) : ckB r = true ∧ r.neg = neg ∧ r.i ++ (if r.f = [] then [] else 46 :: r.f) = t := by
  have hsp := span_all t
  have hi := take_isD t
  unfold rdB at h
  generalize t.takeWhile isD = i at *
  generalize t.dropWhile isD = q at *
  simp only [] at h
  have key : ∀ f : List UInt8, (if i = [] ∨ (decide (1 < i.length) && all0 (i.take 1)) = true ∨ allD f = false ∨ (neg && all0 i && all0 f) = true then ((⟨false, [], []⟩, 20) : Rw × Int)
      else if 40 < i.length + f.length then (⟨false, [], []⟩, 3) else (⟨neg, i, f⟩, 0)) = (r, 0) → r = ⟨neg, i, f⟩ ∧ ckB r = true := by
    intro f hf
    split at hf
    · simp only [Prod.mk.injEq] at hf
      exact absurd hf.2 (by decide)
    · rename_i hn
      split at hf
      · simp only [Prod.mk.injEq] at hf
        exact absurd hf.2 (by decide)
      · rename_i hl
        have e : (⟨neg, i, f⟩ : Rw) = r := congrArg Prod.fst hf
        subst e
        refine ⟨rfl, ?_⟩
        have n1 : ¬ i = [] := fun e => hn (.inl e)
        have n2 : ¬ (decide (1 < i.length) && all0 (i.take 1)) = true := fun e => hn (.inr (.inl e))
        have n3 : ¬ allD f = false := fun e => hn (.inr (.inr (.inl e)))
        have n4 : ¬ (neg && all0 i && all0 f) = true := fun e => hn (.inr (.inr (.inr e)))
        have hp : 1 ≤ i.length := by
          cases i with
          | nil => exact absurd rfl n1
          | cons x m => simp
        have hai : allD i = true := List.all_eq_true.2 hi
        unfold ckB
        simp only [Bool.eq_false_iff.2 n2, Bool.eq_false_iff.2 n4, hai, Bool.not_eq_false _ ▸ n3, Bool.not_false, Bool.and_true]
        exact decide_eq_true ⟨hp, by omega⟩
  cases q with
  | nil =>
    obtain ⟨e, hc⟩ := key [] h
    refine ⟨hc, by rw [e], ?_⟩
    rw [e]
    simpa using hsp
  | cons c f =>
    by_cases hcf : c = 46 ∧ f ≠ []
    · simp only [if_pos hcf] at h
      obtain ⟨e, hc⟩ := key f h
      refine ⟨hc, by rw [e], ?_⟩
      rw [e]
      simp only [if_neg hcf.2]
      rw [← hcf.1]
      exact hsp
    · simp only [if_neg hcf] at h
      simp only [Prod.mk.injEq] at h
      exact absurd h.2 (by decide)
/-- What is read is told as it was. -/
theorem prs_ok {l : List UInt8} {r : Rw} (h : prs l = (r, 0)) : ckB r = true ∧ txt r = l := by
  unfold prs at h
  split at h
  · simp only [Prod.mk.injEq] at h
    exact absurd h.2 (by decide)
  · unfold txt
    split at h
    · obtain ⟨h1, h2, h3⟩ := rd_ok h
      refine ⟨h1, ?_⟩
      rw [h2, List.append_assoc, h3]
      rfl
    · obtain ⟨h1, h2, h3⟩ := rd_ok h
      refine ⟨h1, ?_⟩
      rw [h2, List.append_assoc, h3]
      rfl
end
end Go.Proofs.YtmggdnnffdaffaaDoor
