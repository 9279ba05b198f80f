/- Where the reference's Parse cuts a text. -/
import Derived.Test.YtmaljkjcibdbgaaDParseW
import Derived.Test.YtmaljkjcibdbgaaDRef1
namespace Go.Proofs.Ytmaljkjcibdbgaa
open Go.RowKit

/-- How many digits a text begins with. -/
def nD (t : ByteArray) : Nat := (t.data.toList.takeWhile isD).length
theorem nD_le (t : ByteArray) : nD t ≤ t.size := by
  have h : (t.data.toList.takeWhile isD).length ≤ t.data.toList.length := (List.takeWhile_prefix (p := isD)).length_le
  have e1 : t.data.toList.length = t.size := by simp
  unfold nD
  omega
theorem nD_at (t : ByteArray) (j : Nat) (h : j < nD t) : 48 ≤ byteN t j ∧ byteN t j ≤ 57 := by
  have e1 : t.data.toList.length = t.size := by simp
  have hl := nD_le t
  have hj : j < t.data.toList.length := by omega
  have e := take_while_take isD t.data.toList
  have hm : t.data.toList[j] ∈ t.data.toList.takeWhile isD := by
    rw [← e]
    exact List.mem_take_iff_getElem.2 ⟨j, by unfold nD at h; omega, rfl⟩
  have := of_decide_eq_true (mem_while isD _ _ hm)
  rw [byteN_list t j hj] at this
  exact this
theorem while_end {α : Type} (p : α → Bool) : ∀ (l : List α) (h : (l.takeWhile p).length < l.length), p (l[(l.takeWhile p).length]'h) = false
  | [], h => by simp at h
  | c :: l, h => by
    by_cases hc : p c = true
    · have e : (c :: l).takeWhile p = c :: l.takeWhile p := by rw [List.takeWhile_cons, if_pos hc]
      have h2 : (l.takeWhile p).length < l.length := by rw [e] at h; simpa using h
      have := while_end p l h2
      simp only [e, List.length_cons, List.getElem_cons_succ]
      exact this
    · have e : (c :: l).takeWhile p = [] := by rw [List.takeWhile_cons, if_neg hc]
      simp only [e, List.length_nil, List.getElem_cons_zero]
      simpa using hc
theorem nD_end (t : ByteArray) (h : nD t < t.size) : ¬ (48 ≤ byteN t (nD t) ∧ byteN t (nD t) ≤ 57) := by
  have e1 : t.data.toList.length = t.size := by simp
  have h2 : (t.data.toList.takeWhile isD).length < t.data.toList.length := by unfold nD at h; omega
  have := of_decide_eq_false (while_end isD t.data.toList h2)
  rw [byteN_list t _ h2] at this
  exact this
/-- Digits up to here, and none here: that is the place. -/
theorem nD_of (t : ByteArray) (k : Nat) (hk : k ≤ t.size) (hd : ∀ j, j < k → 48 ≤ byteN t j ∧ byteN t j ≤ 57) (he : k = t.size ∨ ¬ (48 ≤ byteN t k ∧ byteN t k ≤ 57)) : nD t = k := by
  have hl := nD_le t
  rcases Nat.lt_trichotomy (nD t) k with h | h | h
  · exact absurd (hd _ h) (nD_end t (by omega))
  · exact h
  · rcases he with he | he
    · omega
    · exact absurd (nD_at t k h) he

def badB (neg : Bool) (n : Nat) (i f : ByteArray) : Bool := decide (n = 0) || (decide (byteN i 0 = 48) && decide (1 < i.size)) || !dgB f || (neg && zrB i && zrB f)

theorem top_list (t : ByteArray) : (t.extract 0 (nD t)).data.toList = t.data.toList.takeWhile isD := by
  rw [list_ext, List.drop_zero, Nat.sub_zero]
  exact take_while_take isD _
theorem drop_list (t : ByteArray) : t.data.toList.drop (nD t) = t.data.toList.dropWhile isD := take_while_drop isD _

theorem ps_none (s : ByteArray) (h : ¬ 65536 < s.size) (hn : nD (spT s) < (spT s).size) (hc : byteN (spT s) (nD (spT s)) ≠ 46 ∨ nD (spT s) + 1 = (spT s).size) : psR s = (⟨false, [], []⟩, 20) := by
  rw [prs_of s h]
  generalize spT s = t at *
  have e1 : t.data.toList.length = t.size := by simp
  have hl : nD t < t.data.toList.length := by omega
  have e2 : t.data.toList.dropWhile isD = t.data.toList[nD t] :: t.data.toList.drop (nD t + 1) := by rw [← drop_list, List.drop_eq_getElem_cons hl]
  unfold rdB
  rw [e2]
  have hz : (match (t.data.toList[nD t] :: t.data.toList.drop (nD t + 1)) with
    | [] => some []
    | c :: f => if c = 46 ∧ f ≠ [] then some f else none : Option (List UInt8)) = none := by
    simp only []
    rw [if_neg]
    rintro ⟨h1, h2⟩
    rcases hc with hc | hc
    · apply hc
      rw [← byteN_list t _ hl, h1]
      rfl
    · exact h2 (List.drop_eq_nil_of_le (by omega))
  simp only [hz]

theorem ps_some (s : ByteArray) (h : ¬ 65536 < s.size) (F : ByteArray) (hF : (nD (spT s) = (spT s).size ∧ F = ⟨#[]⟩) ∨ (byteN (spT s) (nD (spT s)) = 46 ∧ nD (spT s) + 1 < (spT s).size ∧ F = (spT s).extract (nD (spT s) + 1) (spT s).size)) :
    psR s = if badB (spN s) (nD (spT s)) ((spT s).extract 0 (nD (spT s))) F = true then (⟨false, [], []⟩, 20) else if 40 < nD (spT s) + F.size then (⟨false, [], []⟩, 3) else (⟨spN s, ((spT s).extract 0 (nD (spT s))).data.toList, F.data.toList⟩, 0) := by
  rw [prs_of s h]
  generalize spT s = t at *
  have e1 : t.data.toList.length = t.size := by simp
  have hI2 : ((t.extract 0 (nD t))).data.toList.length = nD t := by rw [top_list]; rfl
  have hI3 : (t.extract 0 (nD t)).size = nD t := by rw [← hI2]; simp
  have main : ∀ f : List UInt8, f = F.data.toList → (if t.data.toList.takeWhile isD = [] ∨ (decide (1 < (t.data.toList.takeWhile isD).length) && all0 ((t.data.toList.takeWhile isD).take 1)) = true ∨ allD f = false ∨ (spN s && all0 (t.data.toList.takeWhile isD) && all0 f) = true then ((⟨false, [], []⟩, 20) : Rw × Int)
      else if 40 < (t.data.toList.takeWhile isD).length + f.length then (⟨false, [], []⟩, 3) else (⟨spN s, t.data.toList.takeWhile isD, f⟩, 0)) = if badB (spN s) (nD t) (t.extract 0 (nD t)) F = true then (⟨false, [], []⟩, 20) else if 40 < nD t + F.size then (⟨false, [], []⟩, 3) else (⟨spN s, (t.extract 0 (nD t)).data.toList, F.data.toList⟩, 0) := by
    intro f hf
    subst hf
    have hF2 : F.data.toList.length = F.size := by simp
    rw [← top_list]
    generalize hI : t.extract 0 (nD t) = I at *
    have key : (I.data.toList = [] ∨ (decide (1 < I.data.toList.length) && all0 (I.data.toList.take 1)) = true ∨ allD F.data.toList = false ∨ (spN s && all0 I.data.toList && all0 F.data.toList) = true) ↔ badB (spN s) (nD t) I F = true := by
      unfold badB
      rw [← lead_list, ← dgB_list, ← zrB_list, ← zrB_list]
      simp only [Bool.or_eq_true, decide_eq_true_eq, Bool.not_eq_true', or_assoc]
      have : I.data.toList = [] ↔ nD t = 0 := by
        rw [← List.length_eq_zero_iff, hI2]
      rw [this]
    by_cases hb : badB (spN s) (nD t) I F = true
    · rw [if_pos (key.2 hb), if_pos hb]
    · rw [if_neg (fun e => hb (key.1 e)), if_neg hb, hF2, hI2]
  rcases hF with ⟨h1, rfl⟩ | ⟨h1, h2, rfl⟩
  · have e2 : t.data.toList.dropWhile isD = [] := by rw [← drop_list, List.drop_eq_nil_of_le (by omega)]
    unfold rdB
    rw [e2]
    exact main [] rfl
  · have hl : nD t < t.data.toList.length := by omega
    have e2 : t.data.toList.dropWhile isD = t.data.toList[nD t] :: t.data.toList.drop (nD t + 1) := by rw [← drop_list, List.drop_eq_getElem_cons hl]
    have e3 : (t.extract (nD t + 1) t.size).data.toList = t.data.toList.drop (nD t + 1) := by rw [list_ext, List.take_of_length_le (by rw [List.length_drop]; omega)]
    have e4 : t.data.toList[nD t] = 46 ∧ t.data.toList.drop (nD t + 1) ≠ [] := by
      refine ⟨?_, fun e => ?_⟩
      · apply UInt8.toNat_inj.1
        rw [byteN_list t _ hl, h1]
        rfl
      · have := congrArg List.length e
        rw [List.length_drop] at this
        simp at this
        omega
    unfold rdB
    rw [e2]
    simp only []
    rw [if_pos e4]
    exact main _ e3.symm
end Go.Proofs.Ytmaljkjcibdbgaa
