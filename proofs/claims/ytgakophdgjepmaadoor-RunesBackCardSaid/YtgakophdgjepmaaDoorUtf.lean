/- Plain facts on UTF-8: the reference's reading of one rune is the model's own decoding; what is encoded again is what stood there. No dump is read here. -/
import GoSem.Claim
import Derived.Lib.RuneBytes
import Derived.Laws.RangeAny
import Derived.Lib.Props
import Derived.Lib.Bytes2
import Derived.Lib.Strings
namespace Go.Proofs.YtgakophdgjepmaaDoor
open Go

/-- The byte at a place, 0 behind the end. -/
def byteN (s : ByteArray) (k : Nat) : Nat := (s.get! k).toNat
theorem byteN_lt (s : ByteArray) (k : Nat) : byteN s k < 256 := (s.get! k).toNat_lt
theorem byteN_at (s : ByteArray) (k : Nat) (h : k < s.size) : (s[k]'h).toNat = byteN s k := by
  unfold byteN; rw [← get_at s k h]; rfl

/-- A stray byte: read as U+FFFD, in one byte. -/
def strayB (s : ByteArray) (i : Nat) : Bool := decide ((Utf8.decode s i).1 = 65533 ∧ (Utf8.decode s i).2 = 1)

theorem dec_pos (s : ByteArray) (i : Nat) : 1 ≤ (Utf8.decode s i).2 ∧ (Utf8.decode s i).2 ≤ 4 := by
  simp only [Utf8.decode]
  repeat' split
  all_goals simp_all

/-- The decoding, by the bytes. -/
theorem dec_eq (s : ByteArray) (i : Nat) : Utf8.decode s i =
    if byteN s i < 128 then (byteN s i, 1)
    else if 192 ≤ byteN s i ∧ byteN s i < 224 ∧ i + 1 < s.size ∧ 128 ≤ byteN s (i + 1) ∧ byteN s (i + 1) < 192 then
      if 128 ≤ (byteN s i - 192) * 64 + (byteN s (i + 1) - 128) then ((byteN s i - 192) * 64 + (byteN s (i + 1) - 128), 2) else (65533, 1)
    else if 224 ≤ byteN s i ∧ byteN s i < 240 ∧ i + 2 < s.size ∧ 128 ≤ byteN s (i + 1) ∧ byteN s (i + 1) < 192 ∧ 128 ≤ byteN s (i + 2) ∧ byteN s (i + 2) < 192 then
      if 2048 ≤ ((byteN s i - 224) * 64 + (byteN s (i + 1) - 128)) * 64 + (byteN s (i + 2) - 128) ∧ ¬ (55296 ≤ ((byteN s i - 224) * 64 + (byteN s (i + 1) - 128)) * 64 + (byteN s (i + 2) - 128) ∧ ((byteN s i - 224) * 64 + (byteN s (i + 1) - 128)) * 64 + (byteN s (i + 2) - 128) ≤ 57343) then
        (((byteN s i - 224) * 64 + (byteN s (i + 1) - 128)) * 64 + (byteN s (i + 2) - 128), 3) else (65533, 1)
    else if 240 ≤ byteN s i ∧ byteN s i < 248 ∧ i + 3 < s.size ∧ 128 ≤ byteN s (i + 1) ∧ byteN s (i + 1) < 192 ∧ 128 ≤ byteN s (i + 2) ∧ byteN s (i + 2) < 192 ∧ 128 ≤ byteN s (i + 3) ∧ byteN s (i + 3) < 192 then
      if 65536 ≤ (((byteN s i - 240) * 64 + (byteN s (i + 1) - 128)) * 64 + (byteN s (i + 2) - 128)) * 64 + (byteN s (i + 3) - 128) ∧ (((byteN s i - 240) * 64 + (byteN s (i + 1) - 128)) * 64 + (byteN s (i + 2) - 128)) * 64 + (byteN s (i + 3) - 128) ≤ 1114111 then
        ((((byteN s i - 240) * 64 + (byteN s (i + 1) - 128)) * 64 + (byteN s (i + 2) - 128)) * 64 + (byteN s (i + 3) - 128), 4) else (65533, 1)
    else (65533, 1) := by
  have h0 := byteN_lt s i; have h1 := byteN_lt s (i + 1); have h2 := byteN_lt s (i + 2); have h3 := byteN_lt s (i + 3)
  simp only [Utf8.decode, Utf8.valid, Utf8.runeError, Nat.add_zero, ge_iff_le]
  simp only [show ∀ k, (s.get! k).toNat = byteN s k from fun _ => rfl]
  generalize byteN s i = b0 at *
  generalize byteN s (i + 1) = b1 at *
  generalize byteN s (i + 2) = b2 at *
  generalize byteN s (i + 3) = b3 at *
  simp only [Bool.and_eq_true, Bool.or_eq_true, beq_iff_eq, decide_eq_true_eq]
  by_cases c0 : b0 < 128
  · rw [if_pos c0, if_pos c0]
  rw [if_neg c0, if_neg c0]
  by_cases c1 : 192 ≤ b0 ∧ b0 < 224 ∧ i + 1 < s.size ∧ 128 ≤ b1 ∧ b1 < 192
  · rw [if_pos c1, if_pos (by omega)]
    have e : b0 % 32 * 64 + b1 % 64 = (b0 - 192) * 64 + (b1 - 128) := by omega
    simp only [e]
  rw [if_neg c1, if_neg (by omega)]
  by_cases c2 : 224 ≤ b0 ∧ b0 < 240 ∧ i + 2 < s.size ∧ 128 ≤ b1 ∧ b1 < 192 ∧ 128 ≤ b2 ∧ b2 < 192
  · rw [if_pos c2, if_pos (by omega)]
    have e : b0 % 16 * 4096 + b1 % 64 * 64 + b2 % 64 = ((b0 - 224) * 64 + (b1 - 128)) * 64 + (b2 - 128) := by omega
    simp only [e]
    generalize hr : ((b0 - 224) * 64 + (b1 - 128)) * 64 + (b2 - 128) = r
    have hr2 : r < 65536 := by omega
    by_cases c3 : 2048 ≤ r ∧ ¬ (55296 ≤ r ∧ r ≤ 57343)
    · rw [if_pos c3, if_pos (by omega)]
    · rw [if_neg c3, if_neg (by omega)]
  rw [if_neg c2, if_neg (by omega)]
  by_cases c3 : 240 ≤ b0 ∧ b0 < 248 ∧ i + 3 < s.size ∧ 128 ≤ b1 ∧ b1 < 192 ∧ 128 ≤ b2 ∧ b2 < 192 ∧ 128 ≤ b3 ∧ b3 < 192
  · rw [if_pos c3, if_pos (by omega)]
    have e : b0 % 8 * 262144 + b1 % 64 * 4096 + b2 % 64 * 64 + b3 % 64 = (((b0 - 240) * 64 + (b1 - 128)) * 64 + (b2 - 128)) * 64 + (b3 - 128) := by omega
    simp only [e]
    generalize (((b0 - 240) * 64 + (b1 - 128)) * 64 + (b2 - 128)) * 64 + (b3 - 128) = r
    by_cases c4 : 65536 ≤ r ∧ r ≤ 1114111
    · rw [if_pos c4, if_pos (by omega)]
    · rw [if_neg c4, if_neg (by omega)]
  rw [if_neg c3, if_neg (by omega)]

theorem dec_one (s : ByteArray) (i : Nat) (h : byteN s i < 128) : Utf8.decode s i = (byteN s i, 1) := by rw [dec_eq, if_pos h]
theorem dec_none (s : ByteArray) (i : Nat) (h : 128 ≤ byteN s i ∧ byteN s i < 192 ∨ 248 ≤ byteN s i) : Utf8.decode s i = (65533, 1) := by
  rw [dec_eq, if_neg (by omega), if_neg (by omega), if_neg (by omega), if_neg (by omega)]
theorem dec_two (s : ByteArray) (i r : Nat) (h0 : 192 ≤ byteN s i ∧ byteN s i < 224) (h1 : 128 ≤ byteN s (i + 1) ∧ byteN s (i + 1) < 192) (hs : i + 1 < s.size)
    (hr : r = (byteN s i - 192) * 64 + (byteN s (i + 1) - 128)) (hlo : 128 ≤ r) : Utf8.decode s i = (r, 2) := by
  rw [dec_eq, if_neg (by omega), if_pos (by omega), ← hr, if_pos hlo]
theorem dec_two_bad (s : ByteArray) (i : Nat) (h0 : 192 ≤ byteN s i ∧ byteN s i < 224)
    (h1 : s.size < i + 2 ∨ byteN s (i + 1) < 128 ∨ 192 ≤ byteN s (i + 1) ∨ (byteN s i - 192) * 64 + (byteN s (i + 1) - 128) < 128) : Utf8.decode s i = (65533, 1) := by
  rw [dec_eq, if_neg (by omega)]
  by_cases c : 192 ≤ byteN s i ∧ byteN s i < 224 ∧ i + 1 < s.size ∧ 128 ≤ byteN s (i + 1) ∧ byteN s (i + 1) < 192
  · rw [if_pos c, if_neg (by omega)]
  · rw [if_neg c, if_neg (by omega), if_neg (by omega)]
theorem dec_three (s : ByteArray) (i r : Nat) (h0 : 224 ≤ byteN s i ∧ byteN s i < 240) (h1 : 128 ≤ byteN s (i + 1) ∧ byteN s (i + 1) < 192) (h2 : 128 ≤ byteN s (i + 2) ∧ byteN s (i + 2) < 192) (hs : i + 2 < s.size)
    (hr : r = ((byteN s i - 224) * 64 + (byteN s (i + 1) - 128)) * 64 + (byteN s (i + 2) - 128)) (hlo : 2048 ≤ r) (hsu : ¬ (55296 ≤ r ∧ r ≤ 57343)) : Utf8.decode s i = (r, 3) := by
  rw [dec_eq, if_neg (by omega), if_neg (by omega), if_pos (by omega), ← hr, if_pos ⟨hlo, hsu⟩]
theorem dec_three_bad (s : ByteArray) (i : Nat) (h0 : 224 ≤ byteN s i ∧ byteN s i < 240)
    (h1 : s.size < i + 3 ∨ byteN s (i + 1) < 128 ∨ 192 ≤ byteN s (i + 1) ∨ byteN s (i + 2) < 128 ∨ 192 ≤ byteN s (i + 2) ∨ ((byteN s i - 224) * 64 + (byteN s (i + 1) - 128)) * 64 + (byteN s (i + 2) - 128) < 2048 ∨ (55296 ≤ ((byteN s i - 224) * 64 + (byteN s (i + 1) - 128)) * 64 + (byteN s (i + 2) - 128) ∧ ((byteN s i - 224) * 64 + (byteN s (i + 1) - 128)) * 64 + (byteN s (i + 2) - 128) ≤ 57343)) : Utf8.decode s i = (65533, 1) := by
  rw [dec_eq, if_neg (by omega), if_neg (by omega)]
  by_cases c : 224 ≤ byteN s i ∧ byteN s i < 240 ∧ i + 2 < s.size ∧ 128 ≤ byteN s (i + 1) ∧ byteN s (i + 1) < 192 ∧ 128 ≤ byteN s (i + 2) ∧ byteN s (i + 2) < 192
  · rw [if_pos c, if_neg (by omega)]
  · rw [if_neg c, if_neg (by omega)]
theorem dec_four (s : ByteArray) (i r : Nat) (h0 : 240 ≤ byteN s i ∧ byteN s i < 248) (h1 : 128 ≤ byteN s (i + 1) ∧ byteN s (i + 1) < 192) (h2 : 128 ≤ byteN s (i + 2) ∧ byteN s (i + 2) < 192) (h3 : 128 ≤ byteN s (i + 3) ∧ byteN s (i + 3) < 192) (hs : i + 3 < s.size)
    (hr : r = (((byteN s i - 240) * 64 + (byteN s (i + 1) - 128)) * 64 + (byteN s (i + 2) - 128)) * 64 + (byteN s (i + 3) - 128)) (hlo : 65536 ≤ r) (hhi : r ≤ 1114111) : Utf8.decode s i = (r, 4) := by
  rw [dec_eq, if_neg (by omega), if_neg (by omega), if_neg (by omega), if_pos (by omega), ← hr, if_pos ⟨hlo, hhi⟩]
theorem dec_four_bad (s : ByteArray) (i : Nat) (h0 : 240 ≤ byteN s i ∧ byteN s i < 248)
    (h1 : s.size < i + 4 ∨ byteN s (i + 1) < 128 ∨ 192 ≤ byteN s (i + 1) ∨ byteN s (i + 2) < 128 ∨ 192 ≤ byteN s (i + 2) ∨ byteN s (i + 3) < 128 ∨ 192 ≤ byteN s (i + 3) ∨ (((byteN s i - 240) * 64 + (byteN s (i + 1) - 128)) * 64 + (byteN s (i + 2) - 128)) * 64 + (byteN s (i + 3) - 128) < 65536 ∨ 1114111 < (((byteN s i - 240) * 64 + (byteN s (i + 1) - 128)) * 64 + (byteN s (i + 2) - 128)) * 64 + (byteN s (i + 3) - 128)) : Utf8.decode s i = (65533, 1) := by
  rw [dec_eq, if_neg (by omega), if_neg (by omega), if_neg (by omega)]
  by_cases c : 240 ≤ byteN s i ∧ byteN s i < 248 ∧ i + 3 < s.size ∧ 128 ≤ byteN s (i + 1) ∧ byteN s (i + 1) < 192 ∧ 128 ≤ byteN s (i + 2) ∧ byteN s (i + 2) < 192 ∧ 128 ≤ byteN s (i + 3) ∧ byteN s (i + 3) < 192
  · rw [if_pos c, if_neg (by omega)]
  · rw [if_neg c]

/-- What the reference reads at a place. -/
def stepZ (s : ByteArray) (i : Nat) : Int := if strayB s i then -1 else ((Utf8.decode s i).1 : Int)
theorem stepZ_bad {s : ByteArray} {i : Nat} (h : Utf8.decode s i = (65533, 1)) : stepZ s i = -1 ∧ (Utf8.decode s i).2 = 1 := by
  simp [stepZ, strayB, h]
theorem stepZ_good {s : ByteArray} {i r n : Nat} (h : Utf8.decode s i = (r, n)) (hn : 2 ≤ n ∨ r < 128) : stepZ s i = r ∧ (Utf8.decode s i).2 = n := by
  have : ¬ (r = 65533 ∧ n = 1) := by omega
  simp [stepZ, strayB, h, this]

/-- What is decoded is a rune that may be. -/
theorem dec_cases (s : ByteArray) (i : Nat) : (Utf8.decode s i = (65533, 1)) ∨ (byteN s i < 128 ∧ Utf8.decode s i = (byteN s i, 1)) ∨
    (∃ r, Utf8.decode s i = (r, 2) ∧ 128 ≤ r ∧ r ≤ 2047 ∧ i + 1 < s.size ∧ byteN s i = 192 + r / 64 ∧ byteN s (i + 1) = 128 + r % 64) ∨
    (∃ r, Utf8.decode s i = (r, 3) ∧ 2048 ≤ r ∧ r ≤ 65535 ∧ ¬ (55296 ≤ r ∧ r ≤ 57343) ∧ i + 2 < s.size ∧ byteN s i = 224 + r / 4096 ∧ byteN s (i + 1) = 128 + r / 64 % 64 ∧ byteN s (i + 2) = 128 + r % 64) ∨
    (∃ r, Utf8.decode s i = (r, 4) ∧ 65536 ≤ r ∧ r ≤ 1114111 ∧ i + 3 < s.size ∧ byteN s i = 240 + r / 262144 ∧ byteN s (i + 1) = 128 + r / 4096 % 64 ∧ byteN s (i + 2) = 128 + r / 64 % 64 ∧ byteN s (i + 3) = 128 + r % 64) := by
  rw [dec_eq]
  by_cases c0 : byteN s i < 128
  · rw [if_pos c0]; exact .inr (.inl ⟨c0, rfl⟩)
  rw [if_neg c0]
  by_cases c1 : 192 ≤ byteN s i ∧ byteN s i < 224 ∧ i + 1 < s.size ∧ 128 ≤ byteN s (i + 1) ∧ byteN s (i + 1) < 192
  · rw [if_pos c1]
    by_cases c : 128 ≤ (byteN s i - 192) * 64 + (byteN s (i + 1) - 128)
    · rw [if_pos c]; exact .inr (.inr (.inl ⟨_, rfl, c, by omega, by omega, by omega, by omega⟩))
    · rw [if_neg c]; exact .inl rfl
  rw [if_neg c1]
  by_cases c2 : 224 ≤ byteN s i ∧ byteN s i < 240 ∧ i + 2 < s.size ∧ 128 ≤ byteN s (i + 1) ∧ byteN s (i + 1) < 192 ∧ 128 ≤ byteN s (i + 2) ∧ byteN s (i + 2) < 192
  · rw [if_pos c2]
    by_cases c : 2048 ≤ ((byteN s i - 224) * 64 + (byteN s (i + 1) - 128)) * 64 + (byteN s (i + 2) - 128) ∧ ¬ (55296 ≤ ((byteN s i - 224) * 64 + (byteN s (i + 1) - 128)) * 64 + (byteN s (i + 2) - 128) ∧ ((byteN s i - 224) * 64 + (byteN s (i + 1) - 128)) * 64 + (byteN s (i + 2) - 128) ≤ 57343)
    · rw [if_pos c]; exact .inr (.inr (.inr (.inl ⟨_, rfl, c.1, by omega, c.2, by omega, by omega, by omega, by omega⟩)))
    · rw [if_neg c]; exact .inl rfl
  rw [if_neg c2]
  by_cases c3 : 240 ≤ byteN s i ∧ byteN s i < 248 ∧ i + 3 < s.size ∧ 128 ≤ byteN s (i + 1) ∧ byteN s (i + 1) < 192 ∧ 128 ≤ byteN s (i + 2) ∧ byteN s (i + 2) < 192 ∧ 128 ≤ byteN s (i + 3) ∧ byteN s (i + 3) < 192
  · rw [if_pos c3]
    by_cases c : 65536 ≤ (((byteN s i - 240) * 64 + (byteN s (i + 1) - 128)) * 64 + (byteN s (i + 2) - 128)) * 64 + (byteN s (i + 3) - 128) ∧ (((byteN s i - 240) * 64 + (byteN s (i + 1) - 128)) * 64 + (byteN s (i + 2) - 128)) * 64 + (byteN s (i + 3) - 128) ≤ 1114111
    · rw [if_pos c]; exact .inr (.inr (.inr (.inr ⟨_, rfl, c.1, c.2, by omega, by omega, by omega, by omega, by omega⟩)))
    · rw [if_neg c]; exact .inl rfl
  rw [if_neg c3]; exact .inl rfl

/-- The next place lies within the text. -/
theorem dec_le_size (s : ByteArray) (i : Nat) (h : i < s.size) : i + (Utf8.decode s i).2 ≤ s.size := by
  rcases dec_cases s i with e | ⟨_, e⟩ | ⟨r, e, _, _, h1, _⟩ | ⟨r, e, _, _, _, h1, _⟩ | ⟨r, e, _, _, h1, _⟩ <;> rw [e] <;> simp only <;> omega
theorem dec_max (s : ByteArray) (i : Nat) : (Utf8.decode s i).1 ≤ 1114111 := by
  have := byteN_lt s i
  rcases dec_cases s i with e | ⟨_, e⟩ | ⟨r, e, _, _, h1, _⟩ | ⟨r, e, _, _, _, h1, _⟩ | ⟨r, e, _, _, h1, _⟩ <;> rw [e] <;> simp only <;> omega
theorem byteN_list (s : ByteArray) (k : Nat) (h : k < s.size) : s.data.toList[k]? = some (s.get! k) := by
  have e : s.get! k = s[k]'h := get_at s k h
  rw [e]
  have h' : k < s.data.toList.length := by simpa using h
  rw [List.getElem?_eq_getElem h']
  rfl
theorem byteN_eq (s : ByteArray) (k n : Nat) (hn : n < 256) (h : k < s.size) : byteN s k = n ↔ s.data.toList[k]? = some n.toUInt8 := by
  rw [byteN_list s k h]
  unfold byteN
  constructor
  · intro e; rw [← e]; simp
  · intro e
    rw [Option.some.inj e]
    simp
    omega

/-- What lies ahead begins with U+FFFD's three bytes. -/
theorem prefix_bytes (s : ByteArray) (i : Nat) : Lib.hasPrefix (List.take (s.size - i) (List.drop i s.data.toList)) [239, 191, 189] = true ↔ i + 2 < s.size ∧ byteN s i = 239 ∧ byteN s (i + 1) = 191 ∧ byteN s (i + 2) = 189 := by
  have hl : s.data.toList.length = s.size := by simp
  rw [List.take_of_length_le (by simp)]
  unfold Lib.hasPrefix
  by_cases h : i + 2 < s.size
  · rw [byteN_eq s i 239 (by omega) (by omega), byteN_eq s (i + 1) 191 (by omega) (by omega), byteN_eq s (i + 2) 189 (by omega) (by omega)]
    have e0 := List.drop_eq_getElem_cons (l := s.data.toList) (i := i) (by omega)
    have e1 := List.drop_eq_getElem_cons (l := s.data.toList) (i := i + 1) (by omega)
    have e2 := List.drop_eq_getElem_cons (l := s.data.toList) (i := i + 1 + 1) (by omega)
    rw [e0, e1, e2]
    rw [List.getElem?_eq_getElem (by omega), List.getElem?_eq_getElem (by omega), List.getElem?_eq_getElem (by omega)]
    simp [List.isPrefixOf, h]
    constructor
    · rintro ⟨a, b, c⟩; exact ⟨a.symm, b.symm, c.symm⟩
    · rintro ⟨a, b, c⟩; exact ⟨a.symm, b.symm, c.symm⟩
  · constructor
    · intro hp
      have := Lib.hasPrefix_le (s := List.drop i s.data.toList) (p := [239, 191, 189]) hp
      simp at this
      omega
    · intro hp; omega

/-- How the program tells a stray byte. -/
theorem stray_prefix (s : ByteArray) (i : Nat) (h : (Utf8.decode s i).1 = 65533) : (!Lib.hasPrefix (List.take (s.size - i) (List.drop i s.data.toList)) [239, 191, 189]) = strayB s i := by
  rw [Bool.eq_iff_iff, Bool.not_eq_true', ← Bool.not_eq_true, prefix_bytes]
  unfold strayB
  rw [decide_eq_true_eq]
  rcases dec_cases s i with e | ⟨hb, e⟩ | ⟨r, e, _, hr, _⟩ | ⟨r, e, h0, h1, hs, h2, h3, h4, h5⟩ | ⟨r, e, hr, _⟩
  · rw [e]
    simp only [and_self, iff_true]
    rintro ⟨hl, b0, b1, b2⟩
    rw [dec_three s i 65533 (by omega) (by omega) (by omega) hl (by omega) (by omega) (by omega)] at e
    simp at e
  · rw [e] at h; simp at h; omega
  · rw [e] at h; simp at h; omega
  · rw [e] at h ⊢
    simp at h
    simp only [Nat.reduceEqDiff, and_false, iff_false, Classical.not_not]
    exact ⟨h2, by omega, by omega, by omega⟩
  · rw [e] at h; simp at h; omega
/-- What the reference's loop has put together behind j - 1 bytes that go on. -/
def accN (s : ByteArray) (i r0 : Nat) : Nat → Nat
  | 0 => r0
  | 1 => r0
  | j + 2 => accN s i r0 (j + 1) * 64 + (byteN s (i + (j + 1)) - 128)
theorem accN_succ (s : ByteArray) (i r0 j : Nat) (h : 1 ≤ j) : accN s i r0 (j + 1) = accN s i r0 j * 64 + (byteN s (i + j) - 128) := by
  obtain ⟨k, rfl⟩ : ∃ k, j = k + 1 := ⟨j - 1, by omega⟩
  rfl
def Conts (s : ByteArray) (i j : Nat) : Prop := ∀ m, 1 ≤ m → m < j → 128 ≤ byteN s (i + m) ∧ byteN s (i + m) < 192
theorem Conts.one (s : ByteArray) (i : Nat) : Conts s i 1 := fun m h1 h2 => by omega
theorem Conts.succ {s : ByteArray} {i j : Nat} (h : Conts s i j) (h1 : 128 ≤ byteN s (i + j)) (h2 : byteN s (i + j) < 192) : Conts s i (j + 1) := fun m a b => by
  by_cases e : m = j
  · subst e; exact ⟨h1, h2⟩
  · exact h m a (by omega)
theorem accN_le (s : ByteArray) (i r0 : Nat) (h0 : r0 ≤ 31) : accN s i r0 1 ≤ 31 ∧ accN s i r0 2 ≤ 2111 ∧ accN s i r0 3 ≤ 135231 ∧ accN s i r0 4 ≤ 8654911 := by
  have b1 := byteN_lt s (i + 1); have b2 := byteN_lt s (i + 2); have b3 := byteN_lt s (i + 3)
  have e2 : accN s i r0 2 = accN s i r0 1 * 64 + (byteN s (i + 1) - 128) := rfl
  have e3 : accN s i r0 3 = accN s i r0 2 * 64 + (byteN s (i + 2) - 128) := rfl
  have e4 : accN s i r0 4 = accN s i r0 3 * 64 + (byteN s (i + 3) - 128) := rfl
  have e1 : accN s i r0 1 = r0 := rfl
  omega
theorem accN_bd (s : ByteArray) (i r0 j : Nat) (h0 : r0 ≤ 31) (h1 : 1 ≤ j) (h4 : j ≤ 4) : accN s i r0 j ≤ 8654911 := by
  have := accN_le s i r0 h0
  obtain rfl | rfl | rfl | rfl : j = 1 ∨ j = 2 ∨ j = 3 ∨ j = 4 := by omega
  all_goals omega

/-- The reference's first bytes: how many bytes, the least number, the first byte's span. -/
def Lead (n low lo hi : Nat) : Prop := (n = 2 ∧ low = 128 ∧ lo = 192 ∧ hi = 224) ∨ (n = 3 ∧ low = 2048 ∧ lo = 224 ∧ hi = 240) ∨ (n = 4 ∧ low = 65536 ∧ lo = 240 ∧ hi = 248)
theorem lead_bad (s : ByteArray) (i n low lo hi : Nat) (hL : Lead n low lo hi) (h0 : lo ≤ byteN s i ∧ byteN s i < hi)
    (hb : s.size < i + n ∨ (∃ j, 1 ≤ j ∧ j < n ∧ (byteN s (i + j) < 128 ∨ 192 ≤ byteN s (i + j))) ∨
      (accN s i (byteN s i - lo) n < low ∨ 1114111 < accN s i (byteN s i - lo) n ∨ (55296 ≤ accN s i (byteN s i - lo) n ∧ accN s i (byteN s i - lo) n ≤ 57343))) : stepZ s i = -1 ∧ (Utf8.decode s i).2 = 1 := by
  apply stepZ_bad
  have b1 := byteN_lt s (i + 1); have b2 := byteN_lt s (i + 2); have b3 := byteN_lt s (i + 3)
  have e2 : accN s i (byteN s i - lo) 2 = accN s i (byteN s i - lo) 1 * 64 + (byteN s (i + 1) - 128) := rfl
  have e3 : accN s i (byteN s i - lo) 3 = accN s i (byteN s i - lo) 2 * 64 + (byteN s (i + 2) - 128) := rfl
  have e4 : accN s i (byteN s i - lo) 4 = accN s i (byteN s i - lo) 3 * 64 + (byteN s (i + 3) - 128) := rfl
  have e1 : accN s i (byteN s i - lo) 1 = byteN s i - lo := rfl
  rcases hL with ⟨rfl, rfl, rfl, rfl⟩ | ⟨rfl, rfl, rfl, rfl⟩ | ⟨rfl, rfl, rfl, rfl⟩
  · apply dec_two_bad s i h0
    rcases hb with h | ⟨j, h1, h2, h⟩ | h
    · omega
    · obtain rfl : j = 1 := by omega
      omega
    · omega
  · apply dec_three_bad s i h0
    rcases hb with h | ⟨j, h1, h2, h⟩ | h
    · omega
    · obtain rfl | rfl : j = 1 ∨ j = 2 := by omega
      all_goals omega
    · omega
  · apply dec_four_bad s i h0
    rcases hb with h | ⟨j, h1, h2, h⟩ | h
    · omega
    · obtain rfl | rfl | rfl : j = 1 ∨ j = 2 ∨ j = 3 := by omega
      all_goals omega
    · omega
theorem lead_good (s : ByteArray) (i n low lo hi : Nat) (hL : Lead n low lo hi) (h0 : lo ≤ byteN s i ∧ byteN s i < hi) (hs : i + n ≤ s.size) (hc : Conts s i n)
    (hlo : low ≤ accN s i (byteN s i - lo) n) (hhi : accN s i (byteN s i - lo) n ≤ 1114111) (hsu : ¬ (55296 ≤ accN s i (byteN s i - lo) n ∧ accN s i (byteN s i - lo) n ≤ 57343)) :
    stepZ s i = accN s i (byteN s i - lo) n ∧ (Utf8.decode s i).2 = n := by
  have e2 : accN s i (byteN s i - lo) 2 = accN s i (byteN s i - lo) 1 * 64 + (byteN s (i + 1) - 128) := rfl
  have e3 : accN s i (byteN s i - lo) 3 = accN s i (byteN s i - lo) 2 * 64 + (byteN s (i + 2) - 128) := rfl
  have e4 : accN s i (byteN s i - lo) 4 = accN s i (byteN s i - lo) 3 * 64 + (byteN s (i + 3) - 128) := rfl
  have e1 : accN s i (byteN s i - lo) 1 = byteN s i - lo := rfl
  rcases hL with ⟨rfl, rfl, rfl, rfl⟩ | ⟨rfl, rfl, rfl, rfl⟩ | ⟨rfl, rfl, rfl, rfl⟩
  · have c1 := hc 1 (by omega) (by omega)
    exact stepZ_good (dec_two s i _ h0 c1 (by omega) (by omega) (by omega)) (by omega)
  · have c1 := hc 1 (by omega) (by omega); have c2 := hc 2 (by omega) (by omega)
    exact stepZ_good (dec_three s i _ h0 c1 c2 (by omega) (by omega) (by omega) (by omega)) (by omega)
  · have c1 := hc 1 (by omega) (by omega); have c2 := hc 2 (by omega) (by omega); have c3 := hc 3 (by omega) (by omega)
    exact stepZ_good (dec_four s i _ h0 c1 c2 c3 (by omega) (by omega) (by omega) (by omega)) (by omega)
theorem bytes_at (s : ByteArray) (pos n : Nat) (h : pos + n ≤ s.size) : (s.extract pos (pos + n)).data.toList = (List.range n).map fun j => s.get! (pos + j) := by
  rw [Lib.extract_data, Nat.add_sub_cancel_left]
  apply List.ext_getElem?
  intro j
  by_cases hj : j < n
  · rw [List.getElem?_take, if_pos hj, List.getElem?_drop, byteN_list s (pos + j) (by omega)]
    simp [hj]
  · rw [List.getElem?_eq_none (by simp; omega), List.getElem?_eq_none (by simp; omega)]
theorem get_of (s : ByteArray) (k n : Nat) (h : byteN s k = n) : s.get! k = n.toUInt8 := by
  unfold byteN at h
  rw [← h]
  simp
/-- What is encoded again is what stood there. -/
theorem enc_piece (s : ByteArray) (pos : Nat) (hp : pos < s.size) (h : strayB s pos = false) : (s.extract pos (pos + (Utf8.decode s pos).2)).data.toList = Lib.encodeRune (Utf8.decode s pos).1 := by
  rw [bytes_at s pos _ (dec_le_size s pos hp)]
  unfold Lib.encodeRune
  rcases dec_cases s pos with e | ⟨hb, e⟩ | ⟨r, e, h0, h1, hs, h2, h3⟩ | ⟨r, e, h0, h1, hn, hs, h2, h3, h4⟩ | ⟨r, e, h0, h1, hs, h2, h3, h4, h5⟩
  · simp [strayB, e] at h
  · rw [e, Lib.encodeRuneZ_one (by simp only; omega) (by simp only; omega)]
    simp only [List.range_succ, List.range_zero, List.nil_append, List.map_cons, List.map_nil, Nat.add_zero]
    rw [get_of s pos _ rfl]
    congr 2
  · rw [e, Lib.encodeRuneZ_two (by simp only; omega) (by simp only; omega)]
    simp only [List.range_succ, List.range_zero, List.nil_append, List.map_cons, List.map_nil, Nat.add_zero, List.cons_append]
    rw [get_of s pos _ h2, get_of s (pos + 1) _ h3]
    rw [show ((192 : Int) + (r : Int) / 64).toNat = 192 + r / 64 by omega, show ((128 : Int) + (r : Int) % 64).toNat = 128 + r % 64 by omega]
  · rw [e, Lib.encodeRuneZ_three (by simp only; omega)]
    simp only [List.range_succ, List.range_zero, List.nil_append, List.map_cons, List.map_nil, Nat.add_zero, List.cons_append]
    rw [get_of s pos _ h2, get_of s (pos + 1) _ h3, get_of s (pos + 2) _ h4]
    rw [show ((224 : Int) + (r : Int) / 4096).toNat = 224 + r / 4096 by omega, show ((128 : Int) + (r : Int) / 64 % 64).toNat = 128 + r / 64 % 64 by omega, show ((128 : Int) + (r : Int) % 64).toNat = 128 + r % 64 by omega]
  · rw [e, Lib.encodeRuneZ_four (by simp only; omega) (by simp only; omega)]
    simp only [List.range_succ, List.range_zero, List.nil_append, List.map_cons, List.map_nil, Nat.add_zero, List.cons_append]
    rw [get_of s pos _ h2, get_of s (pos + 1) _ h3, get_of s (pos + 2) _ h4, get_of s (pos + 3) _ h5]
    rw [show ((240 : Int) + (r : Int) / 262144).toNat = 240 + r / 262144 by omega, show ((128 : Int) + (r : Int) / 4096 % 64).toNat = 128 + r / 4096 % 64 by omega, show ((128 : Int) + (r : Int) / 64 % 64).toNat = 128 + r / 64 % 64 by omega, show ((128 : Int) + (r : Int) % 64).toNat = 128 + r % 64 by omega]
theorem enc_stray (s : ByteArray) (pos : Nat) (h : strayB s pos = true) : Lib.encodeRune (Utf8.decode s pos).1 = [239, 191, 189] := by
  rw [(of_decide_eq_true h).1]
  rfl
end Go.Proofs.YtgakophdgjepmaaDoor
