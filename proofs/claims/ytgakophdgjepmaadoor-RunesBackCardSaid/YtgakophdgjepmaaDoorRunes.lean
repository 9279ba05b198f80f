/- What is repaired is well-formed; what is well-formed is repaired to itself. -/
import Derived.Test.YtgakophdgjepmaaDoorRepair
namespace Go.Proofs.YtgakophdgjepmaaDoor
open Go.RowKit

/-- A rune that may be. -/
def RuneOk (r : Nat) : Prop := r < 55296 ∨ (57343 < r ∧ r ≤ 1114111)
theorem dec_ok (s : ByteArray) (i : Nat) : RuneOk (Utf8.decode s i).1 := by
  have := byteN_lt s i
  unfold RuneOk
  rcases dec_cases s i with e | ⟨_, e⟩ | ⟨r, e, _, _, h1, _⟩ | ⟨r, e, _, _, _, h1, _⟩ | ⟨r, e, _, _, h1, _⟩ <;> rw [e] <;> simp only <;> omega

def HasAt (t : ByteArray) (p : Nat) (l : List UInt8) : Prop := ∀ j b, l[j]? = some b → t.data.toList[p + j]? = some b
theorem HasAt.byte {t : ByteArray} {p : Nat} {l : List UInt8} (h : HasAt t p l) (j n : Nat) (hn : n < 256) (hj : l[j]? = some n.toUInt8) : p + j < t.size ∧ byteN t (p + j) = n := by
  have e := h j _ hj
  have hl : p + j < t.size := by
    have := (List.getElem?_eq_some_iff.1 e).1
    simpa using this
  exact ⟨hl, (byteN_eq t (p + j) n hn hl).2 e⟩

theorem dec_enc (t : ByteArray) (p r : Nat) (hr : RuneOk r) (h : HasAt t p (Lib.encodeRune r)) : Utf8.decode t p = (r, (Lib.encodeRune r).length) := by
  unfold RuneOk at hr
  by_cases c1 : r ≤ 127
  · have e : Lib.encodeRune r = [r.toUInt8] := by unfold Lib.encodeRune; rw [Lib.encodeRuneZ_one (by omega) (by omega)]; rfl
    rw [e] at h ⊢
    have h0 := h.byte 0 r (by omega) rfl
    rw [Nat.add_zero] at h0
    rw [dec_one t p (by omega), h0.2]
    rfl
  by_cases c2 : r ≤ 2047
  · have e : Lib.encodeRune r = [(192 + r / 64).toUInt8, (128 + r % 64).toUInt8] := by
      unfold Lib.encodeRune
      rw [Lib.encodeRuneZ_two (by omega) (by omega)]
      simp only [List.map_cons, List.map_nil]
      rw [show ((192 : Int) + (r : Int) / 64).toNat = 192 + r / 64 by omega, show ((128 : Int) + (r : Int) % 64).toNat = 128 + r % 64 by omega]
    rw [e] at h ⊢
    have h0 := h.byte 0 _ (by omega) rfl
    have h1 := h.byte 1 _ (by omega) rfl
    rw [Nat.add_zero] at h0
    exact dec_two t p r (by omega) (by omega) (by omega) (by omega) (by omega)
  by_cases c3 : r ≤ 65535
  · have e : Lib.encodeRune r = [(224 + r / 4096).toUInt8, (128 + r / 64 % 64).toUInt8, (128 + r % 64).toUInt8] := by
      unfold Lib.encodeRune
      rw [Lib.encodeRuneZ_three (by omega)]
      simp only [List.map_cons, List.map_nil]
      rw [show ((224 : Int) + (r : Int) / 4096).toNat = 224 + r / 4096 by omega, show ((128 : Int) + (r : Int) / 64 % 64).toNat = 128 + r / 64 % 64 by omega, show ((128 : Int) + (r : Int) % 64).toNat = 128 + r % 64 by omega]
    rw [e] at h ⊢
    have h0 := h.byte 0 _ (by omega) rfl
    have h1 := h.byte 1 _ (by omega) rfl
    have h2 := h.byte 2 _ (by omega) rfl
    rw [Nat.add_zero] at h0
    exact dec_three t p r (by omega) (by omega) (by omega) (by omega) (by omega) (by omega) (by omega)
  · have e : Lib.encodeRune r = [(240 + r / 262144).toUInt8, (128 + r / 4096 % 64).toUInt8, (128 + r / 64 % 64).toUInt8, (128 + r % 64).toUInt8] := by
      unfold Lib.encodeRune
      rw [Lib.encodeRuneZ_four (by omega) (by omega)]
      simp only [List.map_cons, List.map_nil]
      rw [show ((240 : Int) + (r : Int) / 262144).toNat = 240 + r / 262144 by omega, show ((128 : Int) + (r : Int) / 4096 % 64).toNat = 128 + r / 4096 % 64 by omega, show ((128 : Int) + (r : Int) / 64 % 64).toNat = 128 + r / 64 % 64 by omega, show ((128 : Int) + (r : Int) % 64).toNat = 128 + r % 64 by omega]
    rw [e] at h ⊢
    have h0 := h.byte 0 _ (by omega) rfl
    have h1 := h.byte 1 _ (by omega) rfl
    have h2 := h.byte 2 _ (by omega) rfl
    have h3 := h.byte 3 _ (by omega) rfl
    rw [Nat.add_zero] at h0
    exact dec_four t p r (by omega) (by omega) (by omega) (by omega) (by omega) (by omega) (by omega) (by omega)

theorem enc_three (r : Nat) (h : (Lib.encodeRune r).length = 1) : r ≠ 65533 := by
  intro e
  subst e
  exact absurd h (by decide)

theorem hasAt_mid (pre mid post : List UInt8) : HasAt ⟨(pre ++ mid ++ post).toArray⟩ pre.length mid := by
  intro j b hj
  have hlt : j < mid.length := (List.getElem?_eq_some_iff.1 hj).1
  show (pre ++ mid ++ post)[pre.length + j]? = some b
  rw [List.getElem?_append_left (by rw [List.length_append]; omega), List.getElem?_append_right (by omega), Nat.add_sub_cancel_left]
  exact hj

/-- A text of runes, from a place on. -/
theorem of_runes : ∀ (rs : List Nat) (pre : List UInt8), (∀ r ∈ rs, RuneOk r) →
    validFrom ⟨(pre ++ rs.flatMap fun (r : Nat) => Lib.encodeRune (r : Int)).toArray⟩ pre.length = true ∧
    repairFrom ⟨(pre ++ rs.flatMap fun (r : Nat) => Lib.encodeRune (r : Int)).toArray⟩ pre.length = rs.flatMap fun (r : Nat) => Lib.encodeRune (r : Int)
  | [], pre, _ => by
    have hn : ¬ pre.length < (ByteArray.mk (pre ++ [].flatMap fun (r : Nat) => Lib.encodeRune (r : Int)).toArray).size := by
      show ¬ pre.length < (pre ++ []).toArray.size
      simp
    exact ⟨valid_end hn, repair_end hn⟩
  | r :: rs, pre, h => by
    have hr := h r (by simp)
    have ih := of_runes rs (pre ++ Lib.encodeRune r) fun x hx => h x (by simp [hx])
    simp only [List.flatMap_cons]
    rw [← List.append_assoc]
    have hd := dec_enc ⟨(pre ++ Lib.encodeRune r ++ rs.flatMap fun (r : Nat) => Lib.encodeRune (r : Int)).toArray⟩ pre.length r hr (hasAt_mid _ _ _)
    have hlen := (Lib.encodeRuneZ_length (r : Int)).1
    have hlen' : 1 ≤ (Lib.encodeRune r).length := by simpa [Lib.encodeRune] using hlen
    have hp : pre.length < (ByteArray.mk (pre ++ Lib.encodeRune r ++ rs.flatMap fun (r : Nat) => Lib.encodeRune (r : Int)).toArray).size := by
      show pre.length < (pre ++ Lib.encodeRune r ++ rs.flatMap fun (r : Nat) => Lib.encodeRune (r : Int)).toArray.size
      simp only [List.size_toArray, List.length_append]
      omega
    have hst : strayB ⟨(pre ++ Lib.encodeRune r ++ rs.flatMap fun (r : Nat) => Lib.encodeRune (r : Int)).toArray⟩ pre.length = false := by
      unfold strayB
      rw [hd]
      exact decide_eq_false fun hh => enc_three r hh.2 hh.1
    rw [List.length_append] at ih
    rw [valid_next hp hst, repair_next hp, hd]
    exact ⟨ih.1, by rw [ih.2]⟩

def runesOf (s : ByteArray) (pos : Nat) : List Nat :=
  if pos < s.size then (Utf8.decode s pos).1 :: runesOf s (pos + (Utf8.decode s pos).2) else []
termination_by s.size - pos
decreasing_by have := dec_pos s pos; omega

theorem runes_facts (s : ByteArray) : ∀ (n pos : Nat), s.size - pos ≤ n → (repairFrom s pos = (runesOf s pos).flatMap fun (r : Nat) => Lib.encodeRune (r : Int)) ∧ (∀ r ∈ runesOf s pos, RuneOk r) ∧ s.size ≤ pos + (repairFrom s pos).length ∧
    (validFrom s pos = true → repairFrom s pos = s.data.toList.drop pos) := by
  intro n
  induction n with
  | zero =>
    intro pos h
    have hp : ¬ pos < s.size := by omega
    rw [repair_end hp, runesOf, if_neg hp]
    refine ⟨rfl, by simp, by simp; omega, fun _ => ?_⟩
    rw [List.drop_of_length_le (by simp; omega)]
  | succ n ih =>
    intro pos h
    by_cases hp : pos < s.size
    · have hd := dec_pos s pos
      have ⟨i1, i2, i3, i4⟩ := ih (pos + (Utf8.decode s pos).2) (by omega)
      rw [repair_next hp, runesOf, if_pos hp]
      refine ⟨by rw [List.flatMap_cons, i1], ?_, ?_, fun hv => ?_⟩
      · intro r hr
        rcases List.mem_cons.1 hr with rfl | hr
        · exact dec_ok s pos
        · exact i2 r hr
      · rw [List.length_append]
        by_cases hst : strayB s pos = true
        · rw [enc_stray s pos hst]
          have := (of_decide_eq_true hst).2
          simp
          omega
        · have e := congrArg List.length (enc_piece s pos hp (by simpa using hst))
          have := dec_le_size s pos hp
          simp at e
          omega
      · by_cases hst : strayB s pos = true
        · rw [valid_bad hp hst] at hv
          cases hv
        · have hst' : strayB s pos = false := by simpa using hst
          rw [valid_next hp hst'] at hv
          rw [i4 hv, ← piece_take s pos hp hst', ← List.drop_drop]
          exact List.take_append_drop _ _
    · rw [repair_end hp, runesOf, if_neg hp]
      refine ⟨rfl, by simp, by simp; omega, fun _ => ?_⟩
      rw [List.drop_of_length_le (by simp; omega)]

def repaired (s : ByteArray) : ByteArray := ⟨(repairFrom s 0).toArray⟩
theorem repaired_valid (s : ByteArray) : validFrom (repaired s) 0 = true ∧ repairFrom (repaired s) 0 = repairFrom s 0 := by
  have ⟨h1, h2, _, _⟩ := runes_facts s s.size 0 (by omega)
  have := of_runes (runesOf s 0) [] h2
  simp only [List.nil_append, List.length_nil] at this
  unfold repaired
  rw [h1]
  exact this
theorem repaired_same (s : ByteArray) : ((repaired s).toList == s.toList) = validFrom s 0 := by
  rw [Bool.eq_iff_iff, beq_iff_eq, Lib.toList_data, Lib.toList_data]
  have ⟨_, _, _, h4⟩ := runes_facts s s.size 0 (by omega)
  constructor
  · intro e
    have := (repaired_valid s).1
    have e2 : repaired s = s := by
      obtain ⟨a⟩ := s
      unfold repaired at e ⊢
      congr 1
      exact Array.ext' e
    rw [e2] at this
    exact this
  · intro hv
    have := h4 hv
    rw [List.drop_zero] at this
    unfold repaired
    rw [this]
theorem repaired_size (s : ByteArray) : s.size ≤ (repaired s).size := by
  have ⟨_, _, h3, _⟩ := runes_facts s s.size 0 (by omega)
  unfold repaired
  show s.size ≤ (repairFrom s 0).toArray.size
  simp at h3 ⊢
  exact h3
end Go.Proofs.YtgakophdgjepmaaDoor
