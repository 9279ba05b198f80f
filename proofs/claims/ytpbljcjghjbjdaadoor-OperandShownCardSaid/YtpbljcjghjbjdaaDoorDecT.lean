/- Decimals' texts (plain facts, of no program). -/
import Derived.Test.YtpbljcjghjbjdaaDoorDecZ
namespace Go.Proofs.YtpbljcjghjbjdaaDoor

def isD (b : UInt8) : Bool := decide (48 ≤ b.toNat ∧ b.toNat ≤ 57)
/-- The bytes of digits. -/
def dB (l : List Nat) : List UInt8 := l.map fun d => (48 + d).toUInt8
/-- The digits of bytes. -/
def dN (l : List UInt8) : List Nat := l.map fun b => b.toNat - 48
theorem byte_nat {d : Nat} (h : d < 10) : ((48 + d).toUInt8).toNat = 48 + d := by show (48 + d) % 256 = _; omega
theorem dB_isD {l : List Nat} (h : Digs l) : ∀ b ∈ dB l, isD b = true := by
  intro b hb
  unfold dB at hb
  rw [List.mem_map] at hb
  obtain ⟨d, hd, rfl⟩ := hb
  have := h d hd
  unfold isD
  rw [byte_nat this]
  exact decide_eq_true (by omega)
theorem dN_digs {l : List UInt8} (h : ∀ b ∈ l, isD b = true) : Digs (dN l) := by
  intro d hd
  unfold dN at hd
  rw [List.mem_map] at hd
  obtain ⟨b, hb, rfl⟩ := hd
  have := of_decide_eq_true (h b hb)
  omega
theorem dB_dN {l : List UInt8} (h : ∀ b ∈ l, isD b = true) : dB (dN l) = l := by
  induction l with
  | nil => rfl
  | cons b l ih =>
    have h1 := of_decide_eq_true (h b (by simp))
    have h2 := ih fun x hx => h x (by simp [hx])
    have e : (48 + (b.toNat - 48)).toUInt8 = b := by
      apply UInt8.toNat_inj.1
      rw [byte_nat (by omega)]
      omega
    simp only [dN, dB, List.map_cons] at h2 ⊢
    rw [e, h2]
theorem dN_dB {l : List Nat} (h : Digs l) : dN (dB l) = l := by
  induction l with
  | nil => rfl
  | cons d l ih =>
    have h2 := ih h.tail
    simp only [dN, dB, List.map_cons] at h2 ⊢
    rw [h2, byte_nat h.head, show 48 + d - 48 = d by omega]
theorem dB_len (l : List Nat) : (dB l).length = l.length := by unfold dB; simp
theorem dN_len (l : List UInt8) : (dN l).length = l.length := by unfold dN; simp
theorem dB_append (a b : List Nat) : dB (a ++ b) = dB a ++ dB b := by unfold dB; simp
theorem dN_append (a b : List UInt8) : dN (a ++ b) = dN a ++ dN b := by unfold dN; simp

/-- A decimal as it is handed over: any bytes. -/
structure Rw where
  neg : Bool
  i : List UInt8
  f : List UInt8
def Dc.rw (d : Dc) : Rw := ⟨d.neg, dB d.i, dB d.f⟩
def allD (l : List UInt8) : Bool := l.all isD
def all0 (l : List UInt8) : Bool := l.all fun b => decide (b.toNat = 48)
/-- May it be? -/
def ckB (r : Rw) : Bool :=
  decide (1 ≤ r.i.length ∧ r.i.length + r.f.length ≤ 40) && allD r.i && allD r.f && !(decide (1 < r.i.length) && all0 (r.i.take 1)) && !(r.neg && all0 r.i && all0 r.f)
theorem all0_iff {l : List UInt8} (h : ∀ b ∈ l, isD b = true) : all0 l = true ↔ dVal (dN l) = 0 := by
  induction l with
  | nil => simp [all0, dN, dVal, rVal]
  | cons b l ih =>
    have h1 := of_decide_eq_true (h b (by simp))
    have ih' := ih fun x hx => h x (by simp [hx])
    have e : dVal (dN (b :: l)) = (b.toNat - 48) * 10 ^ l.length + dVal (dN l) := by
      have := dVal_cons (b.toNat - 48) (dN l)
      rw [dN_len] at this
      exact this
    have hp : 0 < 10 ^ l.length := Nat.pow_pos (by omega)
    rw [e]
    simp only [all0, List.all_cons, Bool.and_eq_true, decide_eq_true_eq] at ih' ⊢
    rw [ih']
    constructor
    · rintro ⟨h2, h3⟩
      rw [h2, h3]
      simp
    · intro h2
      have h3 : dVal (dN l) = 0 := by omega
      have h4 : (b.toNat - 48) * 10 ^ l.length = 0 := by omega
      rcases Nat.mul_eq_zero.1 h4 with h5 | h5
      · exact ⟨by omega, h3⟩
      · omega
theorem ck_iff (r : Rw) : ckB r = true ↔ ∃ d : Dc, d.Ok ∧ r = d.rw := by
  constructor
  · intro h
    unfold ckB at h
    simp only [Bool.and_eq_true, Bool.not_eq_true', decide_eq_true_eq, allD, List.all_eq_true] at h
    obtain ⟨⟨⟨⟨hl, hi⟩, hf⟩, hz⟩, hs⟩ := h
    refine ⟨⟨r.neg, dN r.i, dN r.f⟩, ⟨dN_digs hi, dN_digs hf, by rw [dN_len]; exact hl.1, by rw [dN_len, dN_len]; exact hl.2, ?_, ?_⟩, ?_⟩
    · rw [dN_len]
      by_cases c : 1 < r.i.length
      · right
        cases hr : r.i with
        | nil => rw [hr] at c; simp at c
        | cons b m =>
          rw [hr] at hz c hi
          have h1 := of_decide_eq_true (hi b (by simp))
          simp only [c, decide_true, Bool.true_and, all0, List.take_succ_cons, List.take_zero, List.all_cons, List.all_nil, Bool.and_true, decide_eq_false_iff_not] at hz
          exact ⟨b.toNat - 48, rfl, by omega⟩
      · left; omega
    · intro hn h0
      have h0' : dVal (dN r.i ++ dN r.f) = 0 := h0
      rw [← dN_append] at h0'
      have h3 := (all0_iff (l := r.i ++ r.f) (fun b hb => by rcases List.mem_append.1 hb with hb | hb; exact hi b hb; exact hf b hb)).2 h0'
      simp only [all0, List.all_append, Bool.and_eq_true] at h3
      have hn' : r.neg = true := hn
      simp only [all0, hn', h3.1, h3.2, Bool.and_self] at hs
      cases hs
    · unfold Dc.rw
      rw [dB_dN hi, dB_dN hf]
  · rintro ⟨d, h, rfl⟩
    unfold ckB Dc.rw
    have h1 := h.one
    have h2 := h.most
    have hi := dB_isD h.di
    have hf := dB_isD h.df
    simp only [Bool.and_eq_true, Bool.not_eq_true', decide_eq_true_eq, allD, List.all_eq_true, dB_len]
    refine ⟨⟨⟨⟨⟨h1, h2⟩, hi⟩, hf⟩, ?_⟩, ?_⟩
    · rcases h.lead with hl | ⟨x, hx, hx0⟩
      · rw [hl]; rfl
      · cases hc : d.i with
        | nil => rw [hc] at hx; cases hx
        | cons y m =>
          rw [hc] at hx
          simp at hx
          subst hx
          have hy : y < 10 := h.di y (by rw [hc]; simp)
          have e : all0 ((dB (y :: m)).take 1) = false := by
            simp only [dB, all0, List.map_cons, List.take_succ_cons, List.take_zero, List.all_cons, List.all_nil, Bool.and_true]
            rw [byte_nat hy]
            exact decide_eq_false (by omega)
          rw [e, Bool.and_false]
    · cases hn : d.neg with
      | false => rfl
      | true =>
        have h0 := h.sign hn
        rw [Bool.true_and]
        cases hz : (all0 (dB d.i) && all0 (dB d.f)) with
        | false => rfl
        | true =>
          exfalso
          rw [Bool.and_eq_true] at hz
          have h3 : all0 (dB d.i ++ dB d.f) = true := by simp only [all0, List.all_append, Bool.and_eq_true]; exact hz
          have h4 := (all0_iff (fun b hb => by rcases List.mem_append.1 hb with hb | hb; exact hi b hb; exact hf b hb)).1 h3
          rw [dN_append, dN_dB h.di, dN_dB h.df] at h4
          exact h0 h4

/-- The text. -/
def txt (r : Rw) : List UInt8 := (if r.neg then [45] else []) ++ r.i ++ (if r.f = [] then [] else 46 :: r.f)
/-- What is read of a text: the decimal, or the error. -/
def rdB (neg : Bool) (t : List UInt8) : Rw × Int :=
  let i := t.takeWhile isD
  let o : Option (List UInt8) := match t.dropWhile isD with
    | [] => some []
    | c :: f => if c = 46 ∧ f ≠ [] then some f else none
  match o with
  | none => (⟨false, [], []⟩, 20)
  | some f =>
    if i = [] ∨ (decide (1 < i.length) && all0 (i.take 1)) = true ∨ allD f = false ∨ (neg && all0 i && all0 f) = true then (⟨false, [], []⟩, 20)
    else if 40 < i.length + f.length then (⟨false, [], []⟩, 3) else (⟨neg, i, f⟩, 0)
def prs (l : List UInt8) : Rw × Int := if 65536 < l.length then (⟨false, [], []⟩, 2) else match l with
  | 45 :: t => rdB true t
  | t => rdB false t
theorem span_digits {a b : List UInt8} (ha : ∀ x ∈ a, isD x = true) (hb : b = [] ∨ ∃ c t, b = c :: t ∧ isD c = false) : (a ++ b).takeWhile isD = a ∧ (a ++ b).dropWhile isD = b := by
  induction a with
  | nil =>
    rcases hb with rfl | ⟨c, t, rfl, hc⟩
    · exact ⟨rfl, rfl⟩
    · simp [hc]
  | cons x a ih =>
    have hx := ha x (by simp)
    have := ih fun y hy => ha y (by simp [hy])
    simp [hx, this.1, this.2]
theorem rd_back {d : Dc} (h : d.Ok) : rdB d.neg (dB d.i ++ (if dB d.f = [] then [] else 46 :: dB d.f)) = (d.rw, 0) := by
  have hk := (ck_iff d.rw).2 ⟨d, h, rfl⟩
  unfold ckB Dc.rw at hk
  simp only [Bool.and_eq_true, Bool.not_eq_true', decide_eq_true_eq] at hk
  obtain ⟨⟨⟨⟨hl, hi⟩, hf⟩, hz⟩, hs⟩ := hk
  have hsp := span_digits (b := if dB d.f = [] then [] else 46 :: dB d.f) (dB_isD h.di) (by
    by_cases c : dB d.f = []
    · rw [if_pos c]; exact .inl rfl
    · rw [if_neg c]; exact .inr ⟨46, _, rfl, by decide⟩)
  unfold rdB
  rw [hsp.1, hsp.2]
  have hne : dB d.i ≠ [] := fun e => by rw [e] at hl; simp at hl
  have ho : (match (if dB d.f = [] then [] else 46 :: dB d.f) with
    | [] => some []
    | c :: f => if c = 46 ∧ f ≠ [] then some f else none : Option (List UInt8)) = some (dB d.f) := by
    by_cases c : dB d.f = []
    · rw [if_pos c, c]
    · rw [if_neg c]; simp [c]
  simp only [ho]
  rw [if_neg, if_neg (by omega)]
  · rfl
  · rintro (h1 | h1 | h1 | h1)
    · exact hne h1
    · rw [hz] at h1; cases h1
    · rw [hf] at h1; cases h1
    · rw [hs] at h1; cases h1
/-- What is told of a decimal is read as it. -/
theorem prs_txt {d : Dc} (h : d.Ok) : prs (txt d.rw) = (d.rw, 0) := by
  have hb := rd_back h
  have h1 := h.one
  have h2 := h.most
  have hlen : (txt d.rw).length ≤ 65536 := by
    unfold txt Dc.rw
    simp only [List.length_append, dB_len]
    split <;> split <;> simp [dB_len] <;> omega
  unfold prs
  rw [if_neg (by omega)]
  have e : txt d.rw = (if d.neg then [45] else []) ++ (dB d.i ++ (if dB d.f = [] then [] else 46 :: dB d.f)) := by
    unfold txt Dc.rw
    rw [List.append_assoc]
  rw [e]
  cases hn : d.neg with
  | true =>
    rw [hn] at hb
    exact hb
  | false =>
    rw [hn] at hb
    cases hc : dB d.i with
    | nil => have := dB_len d.i; rw [hc] at this; simp at this; omega
    | cons x m =>
      have hx := of_decide_eq_true (dB_isD h.di x (by rw [hc]; simp))
      rw [hc] at hb
      simp only [Bool.false_eq_true, if_false, List.nil_append, List.cons_append] at hb ⊢
      split
      · rename_i t ht
        simp only [List.cons.injEq] at ht
        rw [ht.1] at hx
        simp at hx
      · exact hb
theorem span_all (t : List UInt8) : t.takeWhile isD ++ t.dropWhile isD = t := List.takeWhile_append_dropWhile
theorem take_isD (t : List UInt8) : ∀ b ∈ t.takeWhile isD, isD b = true := by
  induction t with
  | nil => intro b hb; cases hb
  | cons c t ih =>
    intro b hb
    by_cases hc : isD c = true
    · rw [List.takeWhile_cons_of_pos hc] at hb
      rcases List.mem_cons.1 hb with rfl | hb
      · exact hc
      · exact ih b hb
    · rw [List.takeWhile_cons_of_neg hc] at hb
      cases hb
theorem rd_ok {neg : Bool} {t : List UInt8} {r : Rw} (h : rdB neg t = (r, 0)) : ckB r = true ∧ r.neg = neg ∧ r.i ++ (if r.f = [] then [] else 46 :: r.f) = t := by
  have hsp := span_all t
  have hi := take_isD t
  unfold rdB at h
  generalize t.takeWhile isD = i at *
  generalize t.dropWhile isD = q at *
  simp only [] at h
  have key : ∀ f : List UInt8, (if i = [] ∨ (decide (1 < i.length) && all0 (i.take 1)) = true ∨ allD f = false ∨ (neg && all0 i && all0 f) = true then ((⟨false, [], []⟩, 20) : Rw × Int)
      else if 40 < i.length + f.length then (⟨false, [], []⟩, 3) else (⟨neg, i, f⟩, 0)) = (r, 0) → r = ⟨neg, i, f⟩ ∧ ckB r = true := by
    intro f hf
    split at hf
    · simp only [Prod.mk.injEq] at hf
      exact absurd hf.2 (by decide)
    · rename_i hn
      split at hf
      · simp only [Prod.mk.injEq] at hf
        exact absurd hf.2 (by decide)
      · rename_i hl
        have e : (⟨neg, i, f⟩ : Rw) = r := congrArg Prod.fst hf
        subst e
        refine ⟨rfl, ?_⟩
        have n1 : ¬ i = [] := fun e => hn (.inl e)
        have n2 : ¬ (decide (1 < i.length) && all0 (i.take 1)) = true := fun e => hn (.inr (.inl e))
        have n3 : ¬ allD f = false := fun e => hn (.inr (.inr (.inl e)))
        have n4 : ¬ (neg && all0 i && all0 f) = true := fun e => hn (.inr (.inr (.inr e)))
        have hp : 1 ≤ i.length := by
          cases i with
          | nil => exact absurd rfl n1
          | cons x m => simp
        have hai : allD i = true := List.all_eq_true.2 hi
        unfold ckB
        simp only [Bool.eq_false_iff.2 n2, Bool.eq_false_iff.2 n4, hai, Bool.not_eq_false _ ▸ n3, Bool.not_false, Bool.and_true]
        exact decide_eq_true ⟨hp, by omega⟩
  cases q with
  | nil =>
    obtain ⟨e, hc⟩ := key [] h
    refine ⟨hc, by rw [e], ?_⟩
    rw [e]
    simpa using hsp
  | cons c f =>
    by_cases hcf : c = 46 ∧ f ≠ []
    · simp only [if_pos hcf] at h
      obtain ⟨e, hc⟩ := key f h
      refine ⟨hc, by rw [e], ?_⟩
      rw [e]
      simp only [if_neg hcf.2]
      rw [← hcf.1]
      exact hsp
    · simp only [if_neg hcf] at h
      simp only [Prod.mk.injEq] at h
      exact absurd h.2 (by decide)
/-- What is read is told as it was. -/
theorem prs_ok {l : List UInt8} {r : Rw} (h : prs l = (r, 0)) : ckB r = true ∧ txt r = l := by
  unfold prs at h
  split at h
  · simp only [Prod.mk.injEq] at h
    exact absurd h.2 (by decide)
  · unfold txt
    split at h
    · obtain ⟨h1, h2, h3⟩ := rd_ok h
      refine ⟨h1, ?_⟩
      rw [h2, List.append_assoc, h3]
      rfl
    · obtain ⟨h1, h2, h3⟩ := rd_ok h
      refine ⟨h1, ?_⟩
      rw [h2, List.append_assoc, h3]
      rfl
end Go.Proofs.YtpbljcjghjbjdaaDoor
