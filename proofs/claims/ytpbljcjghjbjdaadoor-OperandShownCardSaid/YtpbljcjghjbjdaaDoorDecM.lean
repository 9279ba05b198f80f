/- Decimal digits: lists of digits, their worth, and the digits of a number (plain facts, of no program). -/
import Derived.Test.YtpbljcjghjbjdaaDoorProg
namespace Go.Proofs.YtpbljcjghjbjdaaDoor

/-- The worth of digits, the least first. -/
def rVal : List Nat → Nat
  | [] => 0
  | d :: ds => d + 10 * rVal ds
/-- The worth of digits, the greatest first. -/
def dVal (l : List Nat) : Nat := rVal l.reverse
def Digs (l : List Nat) : Prop := ∀ d ∈ l, d < 10

theorem Digs.nil : Digs [] := fun _ h => by cases h
theorem Digs.cons {d : Nat} {l : List Nat} (hd : d < 10) (h : Digs l) : Digs (d :: l) := fun x hx => by
  rcases List.mem_cons.1 hx with rfl | hx
  · exact hd
  · exact h x hx
theorem Digs.head {d : Nat} {l : List Nat} (h : Digs (d :: l)) : d < 10 := h d (by simp)
theorem Digs.tail {d : Nat} {l : List Nat} (h : Digs (d :: l)) : Digs l := fun x hx => h x (by simp [hx])
theorem Digs.append {a b : List Nat} (ha : Digs a) (hb : Digs b) : Digs (a ++ b) := fun x hx => by
  rcases List.mem_append.1 hx with hx | hx
  · exact ha x hx
  · exact hb x hx
theorem Digs.left {a b : List Nat} (h : Digs (a ++ b)) : Digs a := fun x hx => h x (by simp [hx])
theorem Digs.right {a b : List Nat} (h : Digs (a ++ b)) : Digs b := fun x hx => h x (by simp [hx])
theorem Digs.reverse {a : List Nat} (h : Digs a) : Digs a.reverse := fun x hx => h x (by simpa using hx)
theorem Digs.zeros (n : Nat) : Digs (List.replicate n 0) := fun x hx => by rw [List.eq_of_mem_replicate hx]; omega
theorem Digs.take {a : List Nat} (n : Nat) (h : Digs a) : Digs (a.take n) := fun x hx => h x (List.mem_of_mem_take hx)
theorem Digs.drop {a : List Nat} (n : Nat) (h : Digs a) : Digs (a.drop n) := fun x hx => h x (List.mem_of_mem_drop hx)

theorem rVal_append (a b : List Nat) : rVal (a ++ b) = rVal a + 10 ^ a.length * rVal b := by
  induction a with
  | nil => simp [rVal]
  | cons d a ih =>
    simp only [List.cons_append, rVal, ih, List.length_cons, Nat.pow_succ]
    rw [Nat.mul_add, Nat.add_assoc]
    congr 2
    rw [← Nat.mul_assoc, Nat.mul_comm 10]
theorem dVal_nil : dVal [] = 0 := rfl
theorem dVal_append (a b : List Nat) : dVal (a ++ b) = dVal a * 10 ^ b.length + dVal b := by
  unfold dVal
  rw [List.reverse_append, rVal_append, List.length_reverse, Nat.add_comm, Nat.mul_comm]
theorem dVal_one (d : Nat) : dVal [d] = d := by simp [dVal, rVal]
theorem dVal_snoc (a : List Nat) (d : Nat) : dVal (a ++ [d]) = dVal a * 10 + d := by rw [dVal_append, dVal_one]; rfl
theorem dVal_cons (d : Nat) (a : List Nat) : dVal (d :: a) = d * 10 ^ a.length + dVal a := by
  have := dVal_append [d] a
  rw [dVal_one] at this
  exact this
theorem rVal_lt {l : List Nat} (h : Digs l) : rVal l < 10 ^ l.length := by
  induction l with
  | nil => simp [rVal]
  | cons d l ih =>
    have h1 := ih h.tail
    have h2 := h.head
    simp only [rVal, List.length_cons, Nat.pow_succ]
    omega
theorem dVal_lt {l : List Nat} (h : Digs l) : dVal l < 10 ^ l.length := by
  have := rVal_lt h.reverse
  rwa [List.length_reverse] at this
theorem rVal_zeros (n : Nat) : rVal (List.replicate n 0) = 0 := by
  induction n with
  | zero => rfl
  | succ n ih => simp only [List.replicate_succ, rVal, ih]
theorem dVal_zeros (n : Nat) : dVal (List.replicate n 0) = 0 := by unfold dVal; rw [List.reverse_replicate, rVal_zeros]

/-- The digits of a number, the least first. -/
def digsR (n : Nat) : List Nat := if n < 10 then [n] else n % 10 :: digsR (n / 10)
/-- The digits of a number, the greatest first. -/
def digs (n : Nat) : List Nat := (digsR n).reverse

theorem digsR_small {n : Nat} (h : n < 10) : digsR n = [n] := by rw [digsR, if_pos h]
theorem digsR_great {n : Nat} (h : ¬ n < 10) : digsR n = n % 10 :: digsR (n / 10) := by rw [digsR, if_neg h]
theorem digsR_digs (n : Nat) : Digs (digsR n) := by
  induction n using Nat.strongRecOn with
  | _ n ih =>
    by_cases h : n < 10
    · rw [digsR_small h]; exact .cons h .nil
    · rw [digsR_great h]; exact .cons (by omega) (ih (n / 10) (by omega))
theorem rVal_digsR (n : Nat) : rVal (digsR n) = n := by
  induction n using Nat.strongRecOn with
  | _ n ih =>
    by_cases h : n < 10
    · rw [digsR_small h]; simp [rVal]
    · rw [digsR_great h, rVal, ih (n / 10) (by omega)]; omega
theorem digs_digs (n : Nat) : Digs (digs n) := (digsR_digs n).reverse
theorem dVal_digs (n : Nat) : dVal (digs n) = n := by unfold dVal digs; rw [List.reverse_reverse, rVal_digsR]
theorem digsR_len (n : Nat) : 1 ≤ (digsR n).length := by
  by_cases h : n < 10
  · rw [digsR_small h]; simp
  · rw [digsR_great h]; simp
theorem digs_len (n : Nat) : 1 ≤ (digs n).length := by unfold digs; rw [List.length_reverse]; exact digsR_len n
/-- So many digits: less than that power of ten. -/
theorem digsR_le (n : Nat) : ∀ k, 1 ≤ k → ((digsR n).length ≤ k ↔ n < 10 ^ k) := by
  induction n using Nat.strongRecOn with
  | _ n ih =>
    intro k hk
    by_cases h : n < 10
    · rw [digsR_small h]
      have : 10 ^ 1 ≤ 10 ^ k := Nat.pow_le_pow_right (by omega) hk
      simp only [List.length_cons, List.length_nil]
      omega
    · rw [digsR_great h, List.length_cons]
      obtain ⟨m, rfl⟩ : ∃ m, k = m + 1 := ⟨k - 1, by omega⟩
      by_cases hm : 1 ≤ m
      · have := ih (n / 10) (by omega) m hm
        rw [Nat.pow_succ]
        omega
      · obtain rfl : m = 0 := by omega
        have := digsR_len (n / 10)
        simp only [Nat.zero_add, Nat.pow_one]
        omega
theorem digs_le (n k : Nat) (hk : 1 ≤ k) : (digs n).length ≤ k ↔ n < 10 ^ k := by unfold digs; rw [List.length_reverse]; exact digsR_le n k hk

/-- Digits without noughts ahead are those of their worth. -/
theorem rVal_pos {l : List Nat} (h : ∃ d, l.getLast? = some d ∧ d ≠ 0) : 0 < rVal l := by
  induction l with
  | nil => obtain ⟨d, h, _⟩ := h; cases h
  | cons a l ih =>
    cases l with
    | nil =>
      obtain ⟨d, h, h0⟩ := h
      simp at h
      subst h
      simp only [rVal]
      omega
    | cons b l =>
      have := ih (by simpa using h)
      simp only [rVal] at this ⊢
      omega
theorem digsR_same {l : List Nat} (hd : Digs l) (h : ∃ d, l.getLast? = some d ∧ d ≠ 0) : digsR (rVal l) = l := by
  induction l with
  | nil => obtain ⟨d, h, _⟩ := h; cases h
  | cons a l ih =>
    have ha := hd.head
    cases l with
    | nil => simp only [rVal, Nat.mul_zero, Nat.add_zero]; exact digsR_small ha
    | cons b l =>
      have h' : ∃ d, (b :: l).getLast? = some d ∧ d ≠ 0 := by simpa using h
      have hp := rVal_pos h'
      have e := ih hd.tail h'
      show digsR (a + 10 * rVal (b :: l)) = _
      rw [digsR_great (by omega), show (a + 10 * rVal (b :: l)) % 10 = a by omega, show (a + 10 * rVal (b :: l)) / 10 = rVal (b :: l) by omega, e]

/-- Without noughts ahead. -/
def dLead : List Nat → List Nat
  | [] => [0]
  | [d] => [d]
  | d :: e :: l => if d = 0 then dLead (e :: l) else d :: e :: l
theorem dLead_digs (l : List Nat) (h : Digs l) : dLead l = digs (dVal l) := by
  induction l with
  | nil => rw [dVal_nil]; unfold digs; rw [digsR_small (by omega)]; rfl
  | cons d l ih =>
    cases l with
    | nil => rw [dVal_one]; unfold digs; rw [digsR_small h.head]; rfl
    | cons e l =>
      by_cases h0 : d = 0
      · subst h0
        have e1 : dVal (0 :: e :: l) = dVal (e :: l) := by rw [dVal_cons]; omega
        rw [e1, ← ih h.tail]
        simp [dLead]
      · have : digsR (rVal (d :: e :: l).reverse) = (d :: e :: l).reverse := digsR_same h.reverse ⟨d, by simp, h0⟩
        unfold digs dVal
        rw [this, List.reverse_reverse]
        simp [dLead, h0]
theorem digs_snoc {n d : Nat} (hn : 0 < n) (hd : d < 10) : digs (n * 10 + d) = digs n ++ [d] := by
  unfold digs
  rw [digsR_great (n := n * 10 + d) (by omega), show (n * 10 + d) % 10 = d by omega, show (n * 10 + d) / 10 = n by omega]
  simp

/-- Digits by place, the least first; 0 beyond. -/
def rAt (l : List Nat) (i : Nat) : Nat := l.getD i 0
theorem rVal_take_succ (l : List Nat) (i : Nat) : rVal (l.take (i + 1)) = rVal (l.take i) + 10 ^ i * rAt l i := by
  induction l generalizing i with
  | nil => simp [rVal, rAt]
  | cons d l ih =>
    cases i with
    | zero => simp [rVal, rAt]
    | succ i =>
      have := ih i
      simp only [List.take_succ_cons, rVal, this, rAt, List.getD_cons_succ, Nat.pow_succ]
      rw [Nat.mul_add, Nat.add_assoc]
      congr 2
      rw [← Nat.mul_assoc, Nat.mul_comm 10]
theorem rAt_lt {l : List Nat} (h : Digs l) (i : Nat) : rAt l i < 10 := by
  unfold rAt
  rw [List.getD_eq_getElem?_getD]
  cases e : l[i]? with
  | none => simp
  | some d => simpa using h d (List.mem_of_getElem? e)
/-- A sum, place by place: what was written, and what is carried. -/
theorem plus_step {x y c : Nat} {a b out : List Nat} {i : Nat} (h : rVal out + 10 ^ i * c = rVal (a.take i) + rVal (b.take i)) (hl : out.length = i) (hx : x = rAt a i + rAt b i + c) (hy : y = x / 10) :
    rVal (out ++ [x % 10]) + 10 ^ (i + 1) * y = rVal (a.take (i + 1)) + rVal (b.take (i + 1)) := by
  rw [rVal_append, hl, rVal_take_succ, rVal_take_succ, hy, hx]
  simp only [rVal, Nat.pow_succ, Nat.mul_zero, Nat.add_zero]
  generalize rAt a i = u at *
  generalize rAt b i = v at *
  generalize 10 ^ i = p at *
  have e : p * ((u + v + c) % 10) + p * 10 * ((u + v + c) / 10) = p * u + p * v + p * c := by
    rw [Nat.mul_assoc, ← Nat.mul_add, ← Nat.mul_add, ← Nat.mul_add]
    congr 1
    omega
  omega
/-- A difference, place by place: the borrowed one. -/
theorem minus_step {c : Nat} {a b out : List Nat} {i z y : Nat} (h : rVal out + rVal (b.take i) = rVal (a.take i) + 10 ^ i * c) (hl : out.length = i)
    (hz : (rAt b i + c ≤ rAt a i ∧ z = rAt a i - rAt b i - c ∧ y = 0) ∨ (rAt a i < rAt b i + c ∧ z + rAt b i + c = rAt a i + 10 ∧ y = 1)) :
    rVal (out ++ [z]) + rVal (b.take (i + 1)) = rVal (a.take (i + 1)) + 10 ^ (i + 1) * y := by
  rw [rVal_append, hl, rVal_take_succ, rVal_take_succ]
  simp only [rVal, Nat.pow_succ, Nat.mul_zero, Nat.add_zero]
  generalize rAt a i = u at *
  generalize rAt b i = v at *
  generalize 10 ^ i = p at *
  rcases hz with ⟨h1, h2, rfl⟩ | ⟨h1, h2, rfl⟩
  · have e : p * z + p * v + p * c = p * u := by
      rw [← Nat.mul_add, ← Nat.mul_add]
      congr 1
      omega
    omega
  · have e : p * z + p * v + p * c = p * u + p * 10 * 1 := by
      rw [Nat.mul_assoc, ← Nat.mul_add, ← Nat.mul_add, ← Nat.mul_add]
      congr 1
    omega
theorem rVal_take_all {l : List Nat} {i : Nat} (h : l.length ≤ i) : rVal (l.take i) = rVal l := by rw [List.take_of_length_le h]

/-- Digits of the same number of places stand as their worth does; in front of the first one that differs. -/
theorem dVal_lt_of {p : List Nat} {x y : Nat} {a b : List Nat} (hxy : x < y) (ha : Digs a) (hl : a.length = b.length) : dVal (p ++ x :: a) < dVal (p ++ y :: b) := by
  rw [dVal_append, dVal_append, dVal_cons, dVal_cons]
  have h1 := dVal_lt ha
  simp only [List.length_cons, hl] at *
  have h2 : (x + 1) * 10 ^ b.length ≤ y * 10 ^ b.length := Nat.mul_le_mul_right _ hxy
  rw [Nat.add_mul, Nat.one_mul] at h2
  omega
theorem dVal_inj : ∀ {a b : List Nat}, Digs a → Digs b → a.length = b.length → dVal a = dVal b → a = b
  | [], [], _, _, _, _ => rfl
  | [], _ :: _, _, _, h, _ => by cases h
  | _ :: _, [], _, _, h, _ => by cases h
  | x :: a, y :: b, ha, hb, hl, hv => by
    have hl' : a.length = b.length := by simpa using hl
    have hxy : x = y := by
      rcases Nat.lt_trichotomy x y with h | h | h
      · have := dVal_lt_of (p := []) h ha.tail hl'
        simp only [List.nil_append] at this
        omega
      · exact h
      · have := dVal_lt_of (p := []) h hb.tail hl'.symm
        simp only [List.nil_append] at this
        omega
    subst hxy
    rw [dVal_cons, dVal_cons, hl'] at hv
    rw [dVal_inj ha.tail hb.tail hl' (by omega)]
theorem digs_inj {n m : Nat} (h : digs n = digs m) : n = m := by rw [← dVal_digs n, h, dVal_digs]
theorem digs_len_lt {n m : Nat} (h : (digs n).length < (digs m).length) : n < m := by
  have h1 := (digs_le n (digs n).length (digs_len n)).1 (Nat.le_refl _)
  have h2 := digs_le m (digs n).length (digs_len n)
  omega
/-- Division by hand: one digit more. -/
theorem over_step {q r b d k : Nat} {p : Nat} (hp : q * b + r = p) (hk : k * b ≤ r * 10 + d) : (q * 10 + k) * b + (r * 10 + d - k * b) = p * 10 + d := by
  have e : (q * 10 + k) * b = q * b * 10 + k * b := by rw [Nat.add_mul, Nat.mul_assoc, Nat.mul_comm 10 b, ← Nat.mul_assoc]
  omega
theorem over_end {q r b n : Nat} (h : q * b + r = n) (hr : r < b) : q = n / b ∧ r = n % b := by
  have hb : 0 < b := by omega
  subst h
  constructor
  · rw [Nat.add_comm, Nat.add_mul_div_right _ _ hb, Nat.div_eq_of_lt hr, Nat.zero_add]
  · rw [Nat.add_comm, Nat.add_mul_mod_self_right, Nat.mod_eq_of_lt hr]

/-- The text of digits. -/
def dStr (l : List Nat) : ByteArray := ⟨(l.map fun d => (48 + d).toUInt8).toArray⟩
theorem dStr_size (l : List Nat) : (dStr l).size = l.length := by show ((l.map fun d => (48 + d).toUInt8).toArray).size = _; simp
theorem dStr_toList (l : List Nat) : (dStr l).data.toList = l.map fun d => (48 + d).toUInt8 := by simp [dStr]
theorem dStr_append (a b : List Nat) : dStr a ++ dStr b = dStr (a ++ b) := by
  apply ByteArray.ext
  rw [ByteArray.data_append]
  simp [dStr]
theorem dStr_ext (l : List Nat) (a b : Nat) : (dStr l).extract a b = dStr ((l.take b).drop a) := by
  apply ByteArray.ext
  rw [ByteArray.data_extract]
  apply Array.ext'
  rw [Array.toList_extract]
  simp [dStr, List.map_drop, List.map_take, List.drop_take]
theorem dStr_inj {a b : List Nat} (ha : Digs a) (hb : Digs b) (h : dStr a = dStr b) : a = b := by
  have e : (dStr a).data.toList = (dStr b).data.toList := by rw [h]
  rw [dStr_toList, dStr_toList] at e
  clear h
  induction a generalizing b with
  | nil => cases b with
    | nil => rfl
    | cons y b => simp at e
  | cons x a ih => cases b with
    | nil => simp at e
    | cons y b =>
      simp only [List.map_cons, List.cons.injEq] at e
      have hx := ha.head
      have hy := hb.head
      have e1 : ((48 + x).toUInt8).toNat = ((48 + y).toUInt8).toNat := by rw [e.1]
      have e2 : x = y := by
        have h1 : ((48 + x).toUInt8).toNat = 48 + x := by show (48 + x) % 256 = _; omega
        have h2 : ((48 + y).toUInt8).toNat = 48 + y := by show (48 + y) % 256 = _; omega
        omega
      rw [e2, ih ha.tail hb.tail e.2]
/-- A text of digits alone is the text of its digits. -/
theorem dStr_of (s : ByteArray) (h : ∀ b ∈ s.data.toList, 48 ≤ b.toNat ∧ b.toNat ≤ 57) : ∃ l, Digs l ∧ s = dStr l := by
  refine ⟨s.data.toList.map fun b => b.toNat - 48, ?_, ?_⟩
  · intro d hd
    rw [List.mem_map] at hd
    obtain ⟨b, hb, rfl⟩ := hd
    have := h b hb
    omega
  · apply ByteArray.ext
    apply Array.ext'
    rw [dStr_toList, List.map_map]
    symm
    have : ∀ b ∈ s.data.toList, ((fun d => (48 + d).toUInt8) ∘ fun (b : UInt8) => b.toNat - 48) b = b := by
      intro b hb
      have h1 := h b hb
      apply UInt8.toNat_inj.1
      show (48 + (b.toNat - 48)) % 256 = b.toNat
      omega
    rw [List.map_congr_left this, List.map_id']
theorem dStr_get (l : List Nat) (h : Digs l) (k : Nat) (hk : k < (dStr l).size) : ((dStr l)[k]'hk).toNat = 48 + l.getD k 0 := by
  have hk' : k < l.length := by rwa [dStr_size] at hk
  have e : ((dStr l)[k]'hk) = (48 + l[k]).toUInt8 := by
    show (dStr l).data[k]'hk = _
    simp [dStr]
  rw [e, List.getD_eq_getElem?_getD, List.getElem?_eq_getElem hk']
  have h1 := h l[k] (List.getElem_mem hk')
  show (48 + l[k]) % 256 = _
  simp only [Option.getD_some]
  omega
end Go.Proofs.YtpbljcjghjbjdaaDoor
