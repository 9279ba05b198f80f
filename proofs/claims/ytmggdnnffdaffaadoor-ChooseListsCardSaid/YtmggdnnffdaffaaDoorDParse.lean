/- Parse of the program. -/
import Derived.Test.YtmggdnnffdaffaaDoorDSplit
namespace Go.Proofs.YtmggdnnffdaffaaDoor
open Go.RowKit

/-- What Parse tells: the decimal's parts and the error, of any text. -/
def psR (s : ByteArray) : Rw × Int := prs s.data.toList
def psN (s : ByteArray) : Bool := (psR s).1.neg
def psI (s : ByteArray) : ByteArray := ⟨(psR s).1.i.toArray⟩
def psF (s : ByteArray) : ByteArray := ⟨(psR s).1.f.toArray⟩
def psE (s : ByteArray) : Int := (psR s).2
theorem list_ext (t : ByteArray) (a b : Nat) : (t.extract a b).data.toList = (t.data.toList.drop a).take (b - a) := Lib.extract_data t a b
/-- The part ahead of the first point, and behind it, as lists. -/
theorem dot_spec (t : ByteArray) (k : Nat) (h : k ≤ t.size) (hk : ∀ j, j < k → byteN t j ≠ 46) : dotFrom t 0 = dotFrom t k := by
  induction k with
  | zero => rfl
  | succ k ih => rw [ih (by omega) (fun j hj => hk j (by omega)), dot_next (by omega) (hk k (by omega))]
theorem dot_take (t : ByteArray) : ∀ (l : List UInt8) (k : Nat), t.data.toList.drop k = l → k ≤ t.size → dotFrom t k = k + (l.takeWhile fun b => b != 46).length
  | [], k, h, hk => by
    have : ¬ k < t.size := fun hlt => by
      have hl : k < t.data.toList.length := by simpa using hlt
      rw [List.drop_eq_getElem_cons hl] at h
      cases h
    rw [dot_end this]
    simp
    omega
  | b :: l, k, h, hk => by
    have hlt : k < t.size := by
      rcases Nat.lt_or_ge k t.size with c | c
      · exact c
      · rw [List.drop_eq_nil_of_le (by simpa using c)] at h
        cases h
    have hl : k < t.data.toList.length := by simpa using hlt
    have hc := List.drop_eq_getElem_cons hl
    rw [h] at hc
    simp only [List.cons.injEq] at hc
    have hb : b.toNat = byteN t k := by rw [hc.1, byteN_list]
    by_cases c : byteN t k = 46
    · rw [dot_here hlt c]
      have : b = 46 := UInt8.toNat_inj.1 (by rw [hb, c]; rfl)
      rw [this]
      simp
    · rw [dot_next hlt c, dot_take t l (k + 1) hc.2.symm (by omega)]
      have : (b != 46) = true := by
        simp only [bne_iff_ne, ne_eq]
        intro e
        rw [e] at hb
        exact c hb.symm
      have e : (b :: l).takeWhile (fun b => b != 46) = b :: l.takeWhile (fun b => b != 46) := List.takeWhile_cons_of_pos (p := fun b : UInt8 => b != 46) this
      rw [e, List.length_cons]
      omega
theorem mem_while {α : Type} (p : α → Bool) : ∀ (l : List α) (b : α), b ∈ l.takeWhile p → p b = true
  | [], b, h => by cases h
  | c :: l, b, h => by
    by_cases hc : p c = true
    · rw [List.takeWhile_cons_of_pos hc] at h
      rcases List.mem_cons.1 h with rfl | h
      · exact hc
      · exact mem_while p l b h
    · rw [List.takeWhile_cons_of_neg hc] at h
      cases h
theorem take_while_take {α : Type} (p : α → Bool) (l : List α) : l.take (l.takeWhile p).length = l.takeWhile p := by
  conv => lhs; arg 2; rw [← List.takeWhile_append_dropWhile (p := p) (l := l)]
  rw [List.take_left]
theorem take_while_drop {α : Type} (p : α → Bool) (l : List α) : l.drop (l.takeWhile p).length = l.dropWhile p := by
  conv => lhs; arg 2; rw [← List.takeWhile_append_dropWhile (p := p) (l := l)]
  rw [List.drop_left]
/-- Both cut a text at the same place, if it is one. -/
theorem cut_same (neg : Bool) (l : List UInt8) : rdB neg l =
    (let i := l.takeWhile fun b => b != 46
     let r := l.dropWhile fun b => b != 46
     if (r = [] ∨ r.tail ≠ []) ∧ i ≠ [] ∧ allD i = true ∧ allD r.tail = true ∧ (decide (1 < i.length) && all0 (i.take 1)) = false ∧ (neg && all0 i && all0 r.tail) = false then
       (if 40 < i.length + r.tail.length then (⟨false, [], []⟩, 3) else (⟨neg, i, r.tail⟩, 0)) else (⟨false, [], []⟩, 20)) := by
  have h1 : l.takeWhile (fun b => b != 46) ++ l.dropWhile (fun b => b != 46) = l := List.takeWhile_append_dropWhile
  have h3 : ∀ b ∈ l.takeWhile (fun b => b != 46), (b != 46) = true := fun b hb => mem_while _ l b hb
  have h2 : l.dropWhile (fun b => b != 46) = [] ∨ ∃ f, l.dropWhile (fun b => b != 46) = 46 :: f := by
    cases hd : l.dropWhile (fun b => b != 46) with
    | nil => exact .inl rfl
    | cons c f =>
      have := List.head?_dropWhile_not (fun b : UInt8 => b != 46) l
      rw [hd] at this
      simp at this
      rw [this]
      exact .inr ⟨f, rfl⟩
  generalize l.takeWhile (fun b => b != 46) = i at *
  generalize l.dropWhile (fun b => b != 46) = r at *
  simp only []
  cases hai : allD i with
  | true =>
    have hi : ∀ b ∈ i, isD b = true := List.all_eq_true.1 hai
    have hsp := span_digits (a := i) (b := r) hi (by
      rcases h2 with h | ⟨f, h⟩
      · exact .inl h
      · exact .inr ⟨46, f, h, by decide⟩)
    rw [h1] at hsp
    unfold rdB
    rw [hsp.1, hsp.2]
    have main : ∀ f : List UInt8, (if i = [] ∨ (decide (1 < i.length) && all0 (i.take 1)) = true ∨ allD f = false ∨ (neg && all0 i && all0 f) = true then ((⟨false, [], []⟩, 20) : Rw × Int) else if 40 < i.length + f.length then (⟨false, [], []⟩, 3) else (⟨neg, i, f⟩, 0)) =
        if i ≠ [] ∧ true = true ∧ allD f = true ∧ (decide (1 < i.length) && all0 (i.take 1)) = false ∧ (neg && all0 i && all0 f) = false then (if 40 < i.length + f.length then (⟨false, [], []⟩, 3) else (⟨neg, i, f⟩, 0)) else (⟨false, [], []⟩, 20) := by
      intro f
      by_cases c : i = [] ∨ (decide (1 < i.length) && all0 (i.take 1)) = true ∨ allD f = false ∨ (neg && all0 i && all0 f) = true
      · rw [if_pos c, if_neg]
        rintro ⟨c1, _, c4, c2, c3⟩
        rcases c with c | c | c | c
        · exact c1 c
        · rw [c2] at c; cases c
        · rw [c4] at c; cases c
        · rw [c3] at c; cases c
      · have good : i ≠ [] ∧ true = true ∧ allD f = true ∧ (decide (1 < i.length) && all0 (i.take 1)) = false ∧ (neg && all0 i && all0 f) = false := by
          refine ⟨fun e => c (.inl e), rfl, ?_, ?_, ?_⟩
          · cases h : allD f with
            | true => rfl
            | false => exact absurd (.inr (.inr (.inl h))) c
          · exact Bool.eq_false_iff.2 fun e => c (.inr (.inl e))
          · exact Bool.eq_false_iff.2 fun e => c (.inr (.inr (.inr e)))
        rw [if_neg c, if_pos good]
    rcases h2 with h | ⟨f, h⟩
    · subst h
      have := main []
      refine this.trans ?_
      simp only [List.tail_nil, true_or, true_and]
      try rfl
    · subst h
      by_cases hf : f = []
      · subst hf
        simp
      · have := main f
        have e1 : (if (46 : UInt8) = 46 ∧ f ≠ [] then some f else none : Option (List UInt8)) = some f := if_pos ⟨rfl, hf⟩
        show (match (if (46 : UInt8) = 46 ∧ f ≠ [] then some f else none : Option (List UInt8)) with
          | none => ((⟨false, [], []⟩, 20) : Rw × Int)
          | some f => if i = [] ∨ (decide (1 < i.length) && all0 (i.take 1)) = true ∨ allD f = false ∨ (neg && all0 i && all0 f) = true then (⟨false, [], []⟩, 20) else if 40 < i.length + f.length then (⟨false, [], []⟩, 3) else (⟨neg, i, f⟩, 0)) = _
        rw [e1]
        refine this.trans ?_
        simp only [List.tail_cons, ne_eq, hf, not_false_eq_true, or_true, true_and]
        try rfl
  | false =>
    rw [if_neg (by rintro ⟨_, _, h, _⟩; cases h)]
    -- a byte that is neither digit nor point stands ahead of the first point
    have key : ∀ (i r : List UInt8), allD i = false → (∀ b ∈ i, (b != 46) = true) → ∃ c t, (i ++ r).dropWhile isD = c :: t ∧ c ≠ 46 := by
      intro i
      induction i with
      | nil => intro r h; cases h
      | cons b i ih =>
        intro r h hb
        by_cases hd : isD b = true
        · rw [List.cons_append, List.dropWhile_cons_of_pos hd]
          refine ih r ?_ (fun x hx => hb x (by simp [hx]))
          simpa [allD, hd] using h
        · rw [List.cons_append, List.dropWhile_cons_of_neg hd]
          exact ⟨b, i ++ r, rfl, by simpa using hb b (by simp)⟩
    obtain ⟨c, t, e, hc⟩ := key i r hai h3
    rw [h1] at e
    unfold rdB
    rw [e]
    simp only [hc, false_and, if_false]

theorem lead_list (i : ByteArray) : (decide (byteN i 0 = 48) && decide (1 < i.size)) = (decide (1 < i.data.toList.length) && all0 (i.data.toList.take 1)) := by
  have e1 : i.data.toList.length = i.size := by simp
  rw [e1, Bool.and_comm]
  by_cases h : 1 < i.size
  · have hl : 0 < i.data.toList.length := by rw [e1]; omega
    have : i.data.toList.take 1 = [i.data.toList[0]] := by
      rw [List.take_succ_eq_append_getElem hl]
      rfl
    rw [this, ← byteN_list i 0 hl]
    simp [all0]
  · rw [decide_eq_false h, Bool.false_and, Bool.false_and]
theorem form_iff (n : Bool) (i f : ByteArray) : formB n i f = true ↔ i.data.toList ≠ [] ∧ allD i.data.toList = true ∧ allD f.data.toList = true ∧ (decide (1 < i.data.toList.length) && all0 (i.data.toList.take 1)) = false ∧ (n && all0 i.data.toList && all0 f.data.toList) = false := by
  unfold formB
  rw [dgB_list, dgB_list, zrB_list, zrB_list, lead_list]
  simp only [Bool.and_eq_true, Bool.not_eq_true', decide_eq_true_eq]
  have e : i.size ≠ 0 ↔ i.data.toList ≠ [] := by
    have e1 : i.data.toList.length = i.size := by simp
    rw [← e1]
    constructor
    · intro h h2; rw [h2] at h; exact h rfl
    · intro h h2; exact h (List.eq_nil_of_length_eq_zero h2)
  rw [e]
  constructor
  · rintro ⟨⟨⟨⟨h1, h2⟩, h3⟩, h4⟩, h5⟩
    exact ⟨h1, h2, h3, h4, h5⟩
  · rintro ⟨h1, h2, h3, h4, h5⟩
    exact ⟨⟨⟨⟨h1, h2⟩, h3⟩, h4⟩, h5⟩
theorem sp_lists (t : ByteArray) : (spI t).data.toList = t.data.toList.takeWhile (fun b => b != 46) ∧ (spF t).data.toList = (t.data.toList.dropWhile (fun b => b != 46)).tail ∧ (spK t = true ↔ (t.data.toList.dropWhile (fun b => b != 46) = [] ∨ (t.data.toList.dropWhile (fun b => b != 46)).tail ≠ [])) := by
  have hd := dot_take t t.data.toList 0 rfl (Nat.zero_le _)
  rw [Nat.zero_add] at hd
  have e1 : t.data.toList.length = t.size := by simp
  have hw := take_while_take (fun b : UInt8 => b != 46) t.data.toList
  have hr := take_while_drop (fun b : UInt8 => b != 46) t.data.toList
  refine ⟨?_, ?_, ?_⟩
  · unfold spI
    rw [list_ext, hd, List.drop_zero, Nat.sub_zero, hw]
  · unfold spF
    rw [list_ext, hd, List.take_of_length_le (by rw [List.length_drop, e1]; omega), ← hr, List.tail_drop]
  · unfold spK
    rw [decide_eq_true_eq, hd, ← hr, List.tail_drop]
    have hl : (t.data.toList.takeWhile (fun b => b != 46)).length ≤ t.size := by
      rw [← e1]
      exact (List.takeWhile_sublist _).length_le
    generalize (t.data.toList.takeWhile (fun b => b != 46)).length = m at *
    have a1 : t.data.toList.drop m = [] ↔ m = t.size := by
      rw [List.drop_eq_nil_iff, e1]
      omega
    have a2 : t.data.toList.drop (m + 1) ≠ [] ↔ m + 1 < t.size := by
      rw [ne_eq, List.drop_eq_nil_iff, e1]
      omega
    rw [a1, a2]
theorem prs_of (s : ByteArray) (h : ¬ 65536 < s.size) : psR s = rdB (spN s) (spT s).data.toList := by
  have e1 : s.data.toList.length = s.size := by simp
  unfold psR prs
  rw [e1, if_neg h]
  unfold spT
  by_cases hn : spN s = true
  · rw [hn, if_pos rfl]
    obtain ⟨h0, h45⟩ := of_decide_eq_true hn
    have hl : 0 < s.data.toList.length := by rw [e1]; omega
    have hb : s.data.toList[0] = 45 := UInt8.toNat_inj.1 (by rw [byteN_list s 0 hl, h45]; rfl)
    have hx : (s.extract 1 s.size).data.toList = s.data.toList.drop 1 := by rw [list_ext, List.take_of_length_le (by rw [List.length_drop, e1]; omega)]
    rw [hx]
    have hc : s.data.toList = 45 :: s.data.toList.drop 1 := by
      conv => lhs; rw [← List.drop_zero (l := s.data.toList), List.drop_eq_getElem_cons hl, hb]
    rw [hc]
    rfl
  · rw [Bool.eq_false_iff.2 hn, if_neg (by decide)]
    have hq := of_decide_eq_false (Bool.eq_false_iff.2 hn)
    split
    · rename_i t ht
      exfalso
      refine hq ⟨?_, ?_⟩
      · rw [← e1, ht]; simp
      · have hl : 0 < s.data.toList.length := by rw [ht]; simp
        rw [← byteN_list s 0 hl]
        simp [ht]
    · rfl
theorem ps_long (s : ByteArray) (h : 65536 < s.size) : psR s = (⟨false, [], []⟩, 2) := by
  have e1 : s.data.toList.length = s.size := by simp
  unfold psR prs
  rw [e1, if_pos h]
theorem ps_cut (s : ByteArray) (h : ¬ 65536 < s.size) : psR s = if (spK (spT s) && formB (spN s) (spI (spT s)) (spF (spT s))) = true then (if 40 < (spI (spT s)).data.toList.length + (spF (spT s)).data.toList.length then (⟨false, [], []⟩, 3) else (⟨spN s, (spI (spT s)).data.toList, (spF (spT s)).data.toList⟩, 0)) else (⟨false, [], []⟩, 20) := by
  obtain ⟨l1, l2, l3⟩ := sp_lists (spT s)
  rw [prs_of s h, cut_same]
  simp only []
  rw [← l1, ← l2]
  have e : (spK (spT s) && formB (spN s) (spI (spT s)) (spF (spT s))) = true ↔ ((spT s).data.toList.dropWhile (fun b => b != 46) = [] ∨ (spF (spT s)).data.toList ≠ []) ∧ (spI (spT s)).data.toList ≠ [] ∧ allD (spI (spT s)).data.toList = true ∧ allD (spF (spT s)).data.toList = true ∧ (decide (1 < (spI (spT s)).data.toList.length) && all0 ((spI (spT s)).data.toList.take 1)) = false ∧ (spN s && all0 (spI (spT s)).data.toList && all0 (spF (spT s)).data.toList) = false := by
    rw [Bool.and_eq_true, form_iff, l3, l2]
  by_cases c : (spK (spT s) && formB (spN s) (spI (spT s)) (spF (spT s))) = true
  · rw [if_pos c, if_pos (e.1 c)]
  · rw [if_neg c, if_neg (fun h => c (e.2 h))]

/-- A decimal of the right form, however long, made at its own scale. -/
theorem mk_form {d : Dc} (hg : d.Dg) (lead : d.i.length = 1 ∨ ∃ x, d.i.head? = some x ∧ x ≠ 0) (sign : d.neg = true → d.num ≠ 0) : mkN d.neg (d.raised d.f.length) d.f.length = if 40 < d.i.length + d.f.length then none else some d := by
  have e : mkN d.neg (d.raised d.f.length) d.f.length = mk d.z d.f.length := by
    unfold mkN Dc.raised Dc.z
    rw [Nat.sub_self, Nat.pow_zero, Nat.mul_one]
  rw [e]
  by_cases c : 40 < d.i.length + d.f.length
  · rw [if_pos c, mk_none]
    rcases lead with h | ⟨x, hx, hx0⟩
    · left; omega
    · by_cases hf : 40 ≤ d.f.length
      · exact .inl hf
      · right
        have hz : d.z.natAbs = d.num := by unfold Dc.z; split <;> omega
        rw [hz]
        cases hi : d.i with
        | nil => rw [hi] at hx; cases hx
        | cons y m =>
          rw [hi] at hx c
          simp at hx
          subst hx
          unfold Dc.num
          rw [hi, List.cons_append, dVal_cons]
          have h1 : 10 ^ 40 ≤ 10 ^ (m ++ d.f).length := Nat.pow_le_pow_right (by omega) (by rw [List.length_append]; simp at c; omega)
          have h2 : 1 * 10 ^ (m ++ d.f).length ≤ y * 10 ^ (m ++ d.f).length := Nat.mul_le_mul_right _ (by omega)
          omega
  · rw [if_neg c]
    exact mk_ok ⟨hg.di, hg.df, hg.one, by omega, lead, sign⟩
theorem form_dc {n : Bool} {i f : ByteArray} (h : formB n i f = true) : ∃ d : Dc, d.Dg ∧ n = d.neg ∧ i = dStr d.i ∧ f = dStr d.f ∧ mkN d.neg (d.raised d.f.length) d.f.length = if 40 < d.i.length + d.f.length then none else some d := by
  obtain ⟨h1, h2, h3, h4, h5⟩ := (form_iff n i f).1 h
  have hi : ∀ b ∈ i.data.toList, isD b = true := List.all_eq_true.1 h2
  have hf : ∀ b ∈ f.data.toList, isD b = true := List.all_eq_true.1 h3
  have g : (⟨n, dN i.data.toList, dN f.data.toList⟩ : Dc).Dg := ⟨dN_digs hi, dN_digs hf, by
    rw [dN_len]
    cases hl : i.data.toList with
    | nil => exact absurd hl h1
    | cons a b => simp⟩
  refine ⟨⟨n, dN i.data.toList, dN f.data.toList⟩, g, rfl, str_of (dB_dN hi).symm, str_of (dB_dN hf).symm, mk_form g ?_ ?_⟩
  · show (dN i.data.toList).length = 1 ∨ ∃ x, (dN i.data.toList).head? = some x ∧ x ≠ 0
    rw [dN_len]
    by_cases c : 1 < i.data.toList.length
    · right
      cases hr : i.data.toList with
      | nil => rw [hr] at c; simp at c
      | cons b m =>
        rw [hr] at h4 c hi
        have h6 := of_decide_eq_true (hi b (by simp))
        simp only [c, decide_true, Bool.true_and, all0, List.take_succ_cons, List.take_zero, List.all_cons, List.all_nil, Bool.and_true, decide_eq_false_iff_not] at h4
        exact ⟨b.toNat - 48, rfl, by omega⟩
    · left
      have : 0 < i.data.toList.length := List.length_pos_iff.2 h1
      omega
  · intro hn h0
    have h0' : dVal (dN i.data.toList ++ dN f.data.toList) = 0 := h0
    rw [← dN_append] at h0'
    have h7 := (all0_iff (l := i.data.toList ++ f.data.toList) (fun b hb => by rcases List.mem_append.1 hb with hb | hb; exact hi b hb; exact hf b hb)).2 h0'
    simp only [all0, List.all_append, Bool.and_eq_true] at h7
    have hn' : n = true := hn
    simp only [all0, hn', h7.1, h7.2, Bool.and_self] at h5
    cases h5
end Go.Proofs.YtmggdnnffdaffaaDoor
