/- What Escape writes, Unescape reads back. -/
import Derived.Test.YtgakophdgjepmaaDoorRefOne
namespace Go.Proofs.YtgakophdgjepmaaDoor
open Go Go.RowKit

def hexC (q : Nat) : Nat := if q < 10 then 48 + q else 87 + q
theorem hexD_C (q : Nat) : hexD q = (hexC q).toUInt8 := by
  unfold hexD hexC
  split <;> rfl
theorem hexC_facts (q : Nat) (h : q < 16) : hexV (hexC q) = some q ∧ 32 ≤ hexC q ∧ hexC q ≤ 126 := by
  have := (show ∀ q : Fin 16, hexV (hexC q.val) = some q.val ∧ 32 ≤ hexC q.val ∧ hexC q.val ≤ 126 by decide) ⟨q, h⟩
  exact this
theorem hexTop_at (n : Nat) : ∀ d j, j < d → (hexTop n d)[j]? = some (hexD (n / 16 ^ (d - 1 - j) % 16))
  | 0, j, h => by omega
  | d + 1, 0, _ => by simp [hexTop]
  | d + 1, j + 1, h => by
    simp only [hexTop, List.getElem?_cons_succ]
    rw [hexTop_at n d j (by omega)]
    congr 5
    omega

theorem hexN_top {t : ByteArray} {p n d : Nat} (h : HasAt t p (hexTop n d)) (hn : n < 16 ^ d) : ∀ j, j ≤ d → hexN t p j = some (n / 16 ^ (d - j))
  | 0, _ => by
    have : n / 16 ^ (d - 0) = 0 := Nat.div_eq_of_lt (by simpa using hn)
    rw [this]
    rfl
  | j + 1, hj => by
    have ih := hexN_top h hn j (by omega)
    have hq : n / 16 ^ (d - 1 - j) % 16 < 16 := Nat.mod_lt _ (by omega)
    have hf := hexC_facts _ hq
    have hb := h.byte j (hexC (n / 16 ^ (d - 1 - j) % 16)) (by omega) (by rw [hexTop_at n d j (by omega), hexD_C])
    have hv : hexV (byteN t (p + j)) = some (n / 16 ^ (d - 1 - j) % 16) := by rw [hb.2]; exact hf.1
    rw [hexN_succ_some ih hv]
    have e1 : d - (j + 1) = d - 1 - j := by omega
    have e2 : n / 16 ^ (d - j) = n / 16 ^ (d - 1 - j) / 16 := by rw [Nat.div_div_eq_div_mul, ← Nat.pow_succ]; congr 2; omega
    rw [e1, e2]
    congr 1
    omega
theorem hexN_all {t : ByteArray} {p n d : Nat} (h : HasAt t p (hexTop n d)) (hn : n < 16 ^ d) : hexN t p d = some n := by
  have := hexN_top h hn d (Nat.le_refl _)
  simpa using this

theorem HasAt.tail {t : ByteArray} {p : Nat} {a l : List UInt8} (h : HasAt t p (a ++ l)) : HasAt t (p + a.length) l := by
  intro j b hj
  rw [Nat.add_assoc]
  refine h (a.length + j) b ?_
  rw [List.getElem?_append_right (by omega), Nat.add_sub_cancel_left]
  exact hj

/-- One piece is read back as what it stands for. -/
theorem back_hex2 {t : ByteArray} {k b : Nat} {acc : List UInt8} (hb : b < 256) (h : HasAt t k ([92, 120] ++ hexTop b 2)) :
    unescFrom t k acc = unescFrom t (k + ([92, 120] ++ hexTop b 2).length) (acc ++ [b.toUInt8]) := by
  have h0 := h.byte 0 92 (by omega) rfl
  have h1 := h.byte 1 120 (by omega) rfl
  have hx : hexN t (k + 2) 2 = some b := hexN_all h.tail (by omega)
  have hq : seqAt t (k + 1) = some ([b.toUInt8], 3) := by
    have e := byteAt_some hx
    unfold seqAt
    rw [h1.2]
    exact e
  rw [un_seq (k := k) h0.1 h0.2 hq]
  simp [hexTop_length]
theorem back_hexR {t : ByteArray} {k r d : Nat} {c : UInt8} {acc : List UInt8} (hr : RuneOk r) (hc : c = 117 ∧ d = 4 ∨ c = 85 ∧ d = 6) (hn : r < 16 ^ d) (h : HasAt t k ([92, c] ++ hexTop r d)) :
    unescFrom t k acc = unescFrom t (k + ([92, c] ++ hexTop r d).length) (acc ++ Lib.encodeRune (r : Int)) := by
  have h0 := h.byte 0 92 (by omega) rfl
  have hx : hexN t (k + 2) d = some r := hexN_all h.tail hn
  have e := runeAt_some hx hr
  have hq : seqAt t (k + 1) = some (Lib.encodeRune (r : Int), d + 1) := by
    rcases hc with ⟨rfl, rfl⟩ | ⟨rfl, rfl⟩
    · have h1 := h.byte 1 117 (by omega) rfl
      unfold seqAt
      rw [h1.2]
      exact e
    · have h1 := h.byte 1 85 (by omega) rfl
      unfold seqAt
      rw [h1.2]
      exact e
  rw [un_seq (k := k) h0.1 h0.2 hq]
  simp only [List.length_append, hexTop_length, List.length_cons, List.length_nil]
  congr 1
  omega
theorem back_two {t : ByteArray} {k c v : Nat} {acc : List UInt8} (hc : c = 92 ∧ v = 92 ∨ c = 110 ∧ v = 10 ∨ c = 114 ∧ v = 13 ∨ c = 116 ∧ v = 9) (h : HasAt t k [92, c.toUInt8]) :
    unescFrom t k acc = unescFrom t (k + 2) (acc ++ Lib.encodeRune (v : Int)) := by
  have h0 := h.byte 0 92 (by omega) rfl
  have h1 := h.byte 1 c (by omega) rfl
  have hq : seqAt t (k + 1) = some (Lib.encodeRune (v : Int), 1) := by
    rw [put_one (by omega)]
    unfold seqAt
    rw [h1.2]
    rcases hc with ⟨rfl, rfl⟩ | ⟨rfl, rfl⟩ | ⟨rfl, rfl⟩ | ⟨rfl, rfl⟩ <;> rfl
  rw [un_seq (k := k) h0.1 h0.2 hq]
theorem back_plain {t : ByteArray} {k r : Nat} {acc : List UInt8} (hr : r ≤ 126) (h92 : ¬ r = 92) (h : HasAt t k [r.toUInt8]) :
    unescFrom t k acc = unescFrom t (k + 1) (acc ++ Lib.encodeRune (r : Int)) := by
  have h0 := h.byte 0 r (by omega) rfl
  rw [put_one (by omega), un_byte (k := k) h0.1 (fun e => h92 (h0.2.symm.trans e)), get_of t k r h0.2]
theorem back_rune {t : ByteArray} {k r : Nat} {acc : List UInt8} (hr : RuneOk r) (h : HasAt t k (escRune r)) :
    unescFrom t k acc = unescFrom t (k + (escRune r).length) (acc ++ Lib.encodeRune (r : Int)) := by
  by_cases c1 : r = 92
  · subst c1; exact back_two (c := 92) (v := 92) (by omega) h
  by_cases c2 : r = 10
  · subst c2; exact back_two (c := 110) (v := 10) (by omega) h
  by_cases c3 : r = 13
  · subst c3; exact back_two (c := 114) (v := 13) (by omega) h
  by_cases c4 : r = 9
  · subst c4; exact back_two (c := 116) (v := 9) (by omega) h
  by_cases c5 : 32 ≤ r ∧ r ≤ 126
  · rw [esc_plain c1 c5] at h ⊢
    exact back_plain c5.2 c1 h
  by_cases c6 : r ≤ 65535
  · rw [esc_hex4 c1 c2 c3 c4 c5 c6] at h ⊢
    exact back_hexR hr (.inl ⟨rfl, rfl⟩) (by omega) h
  · rw [esc_hex6 (by omega)] at h ⊢
    unfold RuneOk at hr
    exact back_hexR hr (.inr ⟨rfl, rfl⟩) (by omega) h
theorem back_piece {s t : ByteArray} {pos k : Nat} {acc : List UInt8} (hp : pos < s.size) (h : HasAt t k (escPiece s pos)) :
    unescFrom t k acc = unescFrom t (k + (escPiece s pos).length) (acc ++ (s.data.toList.drop pos).take (Utf8.decode s pos).2) := by
  by_cases hst : strayB s pos = true
  · rw [esc_stray hst] at h ⊢
    rw [back_hex2 (byteN_lt s pos) h]
    have h1 := (of_decide_eq_true hst).2
    have hb := byteN_list s pos hp
    have e : (s.data.toList.drop pos).take (Utf8.decode s pos).2 = [(byteN s pos).toUInt8] := by
      rw [h1, List.drop_eq_getElem_cons (by simpa using hp)]
      have e2 : s.data.toList[pos]'(by simpa using hp) = s.get! pos := by
        rw [List.getElem?_eq_getElem (by simpa using hp)] at hb
        exact Option.some.inj hb
      rw [e2, get_of s pos (byteN s pos) rfl]
      rfl
    rw [e]
  · have hst' : strayB s pos = false := by simpa using hst
    rw [esc_rune hst'] at h ⊢
    rw [piece_take s pos hp hst']
    exact back_rune (dec_ok s pos) h

theorem back_from (s : ByteArray) : ∀ (n pos : Nat) (pre acc : List UInt8), s.size - pos ≤ n → pos ≤ s.size →
    unescFrom ⟨(pre ++ escFrom s pos).toArray⟩ pre.length acc = (acc ++ s.data.toList.drop pos, 0, 0)
  | n, pos, pre, acc, hn, hle => by
    by_cases hp : pos < s.size
    · have hd := dec_pos s pos
      have hds := dec_le_size s pos hp
      match n, hn with
      | 0, hn => omega
      | n + 1, hn =>
        have ih := back_from s n (pos + (Utf8.decode s pos).2) (pre ++ escPiece s pos) (acc ++ (s.data.toList.drop pos).take (Utf8.decode s pos).2) (by omega) hds
        rw [esc_next hp, ← List.append_assoc, back_piece hp (hasAt_mid pre (escPiece s pos) _), ← List.length_append, ih]
        rw [List.append_assoc, ← List.drop_drop, List.take_append_drop]
    · have hz : s.data.toList.drop pos = [] := List.drop_eq_nil_of_le (by simp; exact Nat.le_of_not_lt hp)
      rw [esc_end hp, hz, List.append_nil, List.append_nil]
      exact un_end (by show ¬ pre.length < pre.toArray.size; simp)

theorem escFrom_len (s : ByteArray) : ∀ (n pos : Nat), s.size - pos ≤ n → (escFrom s pos).length ≤ 8 * (s.size - pos)
  | n, pos, hn => by
    by_cases hp : pos < s.size
    · have hd := dec_pos s pos
      have hds := dec_le_size s pos hp
      match n, hn with
      | 0, hn => omega
      | n + 1, hn =>
        have ih := escFrom_len s n (pos + (Utf8.decode s pos).2) (by omega)
        have h8 := escPiece_le s pos
        rw [esc_next hp, List.length_append]
        omega
    · rw [esc_end hp]
      simp

def Plain (b : UInt8) : Prop := 32 ≤ b.toNat ∧ b.toNat ≤ 126
theorem plain_of {c : Nat} (h : 32 ≤ c ∧ c ≤ 126) : Plain c.toUInt8 := by
  unfold Plain
  have e : (c.toUInt8).toNat = c := by simp; omega
  rw [e]
  exact h
theorem hexTop_plain (n : Nat) : ∀ d, ∀ b ∈ hexTop n d, Plain b
  | 0, b, h => by cases h
  | d + 1, b, h => by
    rcases List.mem_cons.1 h with rfl | h
    · rw [hexD_C]
      have := hexC_facts (n / 16 ^ d % 16) (Nat.mod_lt _ (by omega))
      exact plain_of this.2
    · exact hexTop_plain n d b h
theorem pair_plain {a c : UInt8} {l : List UInt8} (ha : Plain a) (hc : Plain c) (h : ∀ b ∈ l, Plain b) : ∀ b ∈ [a, c] ++ l, Plain b := by
  intro b hb
  simp only [List.cons_append, List.nil_append, List.mem_cons] at hb
  rcases hb with rfl | rfl | hb
  · exact ha
  · exact hc
  · exact h b hb
theorem none_plain : ∀ b ∈ ([] : List UInt8), Plain b := fun b h => by cases h
theorem escRune_plain (r : Nat) : ∀ b ∈ escRune r, Plain b := by
  unfold escRune
  split
  · exact pair_plain (l := []) (by unfold Plain; decide) (by unfold Plain; decide) none_plain
  split
  · exact pair_plain (l := []) (by unfold Plain; decide) (by unfold Plain; decide) none_plain
  split
  · exact pair_plain (l := []) (by unfold Plain; decide) (by unfold Plain; decide) none_plain
  split
  · exact pair_plain (l := []) (by unfold Plain; decide) (by unfold Plain; decide) none_plain
  split
  · rename_i h
    intro b hb
    rw [List.mem_singleton] at hb
    rw [hb]
    exact plain_of h
  split
  · exact pair_plain (by unfold Plain; decide) (by unfold Plain; decide) (hexTop_plain r 4)
  · exact pair_plain (by unfold Plain; decide) (by unfold Plain; decide) (hexTop_plain r 6)
theorem escPiece_plain (s : ByteArray) (pos : Nat) : ∀ b ∈ escPiece s pos, Plain b := by
  unfold escPiece
  split
  · exact pair_plain (by unfold Plain; decide) (by unfold Plain; decide) (hexTop_plain _ 2)
  · exact escRune_plain _
theorem escFrom_plain (s : ByteArray) : ∀ (n pos : Nat), s.size - pos ≤ n → ∀ b ∈ escFrom s pos, Plain b
  | n, pos, hn => by
    by_cases hp : pos < s.size
    · have hd := dec_pos s pos
      match n, hn with
      | 0, hn => omega
      | n + 1, hn =>
        intro b hb
        rw [esc_next hp] at hb
        rcases List.mem_append.1 hb with h | h
        · exact escPiece_plain s pos b h
        · exact escFrom_plain s n (pos + (Utf8.decode s pos).2) (by omega) b h
    · rw [esc_end hp]
      exact none_plain

/-- What is written of a short text: its size, its letters, and what is read back. -/
theorem back_facts (s t : ByteArray) (hs : s.size ≤ 131072) (ht : t = ⟨(escFrom s 0).toArray⟩) :
    t.size ≤ 1048576 ∧ unescR t = (s.data.toList, 0, 0) ∧ ∀ k (h : k < t.size), 32 ≤ (t[k]'h).toNat ∧ (t[k]'h).toNat ≤ 126 := by
  have hl := escFrom_len s s.size 0 (by omega)
  have hsz : t.size = (escFrom s 0).length := by rw [ht]; show (escFrom s 0).toArray.size = _; simp
  have hle : t.size ≤ 1048576 := by omega
  refine ⟨hle, ?_, ?_⟩
  · unfold unescR
    rw [if_neg (by omega), ht]
    have := back_from s s.size 0 [] [] (by omega) (by omega)
    simpa using this
  · intro k h
    have hm : (t[k]'h) ∈ escFrom s 0 := by
      have : (t[k]'h) ∈ t.data.toList := by
        show t.data[k]'h ∈ t.data.toList
        simp
      have e : t.data.toList = escFrom s 0 := by rw [ht]
      rw [← e]
      exact this
    exact escFrom_plain s s.size 0 (by omega) _ hm
end Go.Proofs.YtgakophdgjepmaaDoor
