/- Escapes, read: plain facts. -/
import Derived.Test.YtgakophdgjepmaaDoorRunes
import Derived.Lib.QuoteBits
namespace Go.Proofs.YtgakophdgjepmaaDoor
open Go Go.RowKit

/-- A digit's worth. -/
def hexV (c : Nat) : Option Nat := if 48 ≤ c ∧ c ≤ 57 then some (c - 48) else if 97 ≤ c ∧ c ≤ 102 then some (c - 87) else if 65 ≤ c ∧ c ≤ 70 then some (c - 55) else none
def hexN (s : ByteArray) (p : Nat) : Nat → Option Nat
  | 0 => some 0
  | j + 1 => match hexN s p j with
    | none => none
    | some a => match hexV (byteN s (p + j)) with
      | none => none
      | some v => some (a * 16 + v)
theorem hexV_lt {c v : Nat} (h : hexV c = some v) : v < 16 := by
  unfold hexV at h
  split at h
  · cases h; omega
  · split at h
    · cases h; omega
    · split at h
      · cases h; omega
      · cases h
theorem hexN_succ_some {s : ByteArray} {p j a v : Nat} (h : hexN s p j = some a) (hv : hexV (byteN s (p + j)) = some v) : hexN s p (j + 1) = some (a * 16 + v) := by simp only [hexN, h, hv]
theorem hexN_succ_none {s : ByteArray} {p j a : Nat} (h : hexN s p j = some a) (hv : hexV (byteN s (p + j)) = none) : hexN s p (j + 1) = none := by simp only [hexN, h, hv]
theorem hexN_more {s : ByteArray} {p j : Nat} (h : hexN s p j = none) : ∀ m, hexN s p (j + m) = none
  | 0 => h
  | m + 1 => by rw [← Nat.add_assoc]; simp only [hexN, hexN_more h m]
theorem hexN_none {s : ByteArray} {p j d : Nat} (h : hexN s p (j + 1) = none) (hj : j < d) : hexN s p d = none := by
  have := hexN_more h (d - (j + 1))
  rw [show j + 1 + (d - (j + 1)) = d by omega] at this
  exact this
theorem hexN_lt {s : ByteArray} {p : Nat} : ∀ {j a : Nat}, hexN s p j = some a → a < 16 ^ j
  | 0, a, h => by simp only [hexN, Option.some.injEq] at h; omega
  | j + 1, a, h => by
    simp only [hexN] at h
    split at h
    · cases h
    · rename_i b hb
      split at h
      · cases h
      · rename_i v hv
        have h1 := hexN_lt hb
        have h2 := hexV_lt hv
        cases h
        rw [Nat.pow_succ]
        omega
theorem byteN_out (s : ByteArray) (k : Nat) (h : s.size ≤ k) : byteN s k = 0 := by
  unfold byteN
  have : s.get! k = 0 := by
    obtain ⟨a⟩ := s
    show a[k]! = 0
    have hk : ¬ k < a.size := by
      have : a.size ≤ k := h
      omega
    rw [getElem!_neg a k hk]
    rfl
  rw [this]
  rfl
theorem hexN_out {s : ByteArray} {p d : Nat} (hd : 0 < d) (h : s.size < p + d) : hexN s p d = none := by
  obtain ⟨e, rfl⟩ : ∃ e, d = e + 1 := ⟨d - 1, by omega⟩
  have hb := byteN_out s (p + e) (by omega)
  simp only [hexN]
  split
  · rfl
  · rw [hb]; rfl
theorem byteN_tail (s : ByteArray) (a j : Nat) (c : a + j < s.size) : byteN (s.extract a s.size) j = byteN s (a + j) := by
  have hs : (s.extract a s.size).size = s.size - a := by simp
  rw [← byteN_at _ j (by omega), ← byteN_at s (a + j) c]
  simp [ByteArray.getElem_extract]
theorem byteN_ext (s : ByteArray) (a j : Nat) (h : a ≤ s.size) : byteN (s.extract a s.size) j = byteN s (a + j) := by
  have hs : (s.extract a s.size).size = s.size - a := by simp
  by_cases c : a + j < s.size
  · exact byteN_tail s a j c
  · rw [byteN_out _ j (by omega), byteN_out s (a + j) (by omega)]
theorem hexN_ext (s : ByteArray) (a p : Nat) (h : a ≤ s.size) : ∀ d, hexN (s.extract a s.size) p d = hexN s (a + p) d
  | 0 => rfl
  | d + 1 => by simp only [hexN, hexN_ext s a p h d, byteN_ext s a (p + d) h, Nat.add_assoc]

/-- What stands behind a backslash at a place: its bytes, and how many bytes it takes. -/
def runeAt (s : ByteArray) (p d : Nat) : Option (List UInt8 × Nat) := match hexN s (p + 1) d with
  | some n => if n < 55296 ∨ (57343 < n ∧ n ≤ 1114111) then some (Lib.encodeRune n, d + 1) else none
  | none => none
def byteAt (s : ByteArray) (p : Nat) : Option (List UInt8 × Nat) := match hexN s (p + 1) 2 with
  | some n => some ([n.toUInt8], 3)
  | none => none
def seqAt (s : ByteArray) (p : Nat) : Option (List UInt8 × Nat) :=
  if byteN s p = 92 then some ([92], 1) else if byteN s p = 110 then some ([10], 1) else if byteN s p = 114 then some ([13], 1) else if byteN s p = 116 then some ([9], 1)
  else if byteN s p = 120 then byteAt s p else if byteN s p = 117 then runeAt s p 4 else if byteN s p = 85 then runeAt s p 6 else none
theorem seqAt_ext (s : ByteArray) (a : Nat) (h : a ≤ s.size) : seqAt (s.extract a s.size) 0 = seqAt s a := by
  unfold seqAt byteAt runeAt
  rw [byteN_ext s a 0 h, hexN_ext s a (0 + 1) h, hexN_ext s a (0 + 1) h, hexN_ext s a (0 + 1) h]
  rfl
theorem seqAt_le {s : ByteArray} {p n : Nat} {l : List UInt8} (h : seqAt s p = some (l, n)) : 1 ≤ n ∧ l.length ≤ n ∧ n ≤ 7 ∧ p + n ≤ s.size := by
  have hb : ∀ v, byteN s p = v → 0 < v → p < s.size := fun v hv h0 => by
    by_cases c : p < s.size
    · exact c
    · have := byteN_out s p (by omega); omega
  have hx : ∀ d m, hexN s (p + 1) d = some m → 0 < d → p + 1 + d ≤ s.size := fun d m hm hd => by
    by_cases c : p + 1 + d ≤ s.size
    · exact c
    · rw [hexN_out hd (by omega)] at hm; cases hm
  unfold seqAt at h
  by_cases c1 : byteN s p = 92
  · rw [if_pos c1] at h; cases h; have := hb _ c1 (by omega); simp; omega
  rw [if_neg c1] at h
  by_cases c2 : byteN s p = 110
  · rw [if_pos c2] at h; cases h; have := hb _ c2 (by omega); simp; omega
  rw [if_neg c2] at h
  by_cases c3 : byteN s p = 114
  · rw [if_pos c3] at h; cases h; have := hb _ c3 (by omega); simp; omega
  rw [if_neg c3] at h
  by_cases c4 : byteN s p = 116
  · rw [if_pos c4] at h; cases h; have := hb _ c4 (by omega); simp; omega
  rw [if_neg c4] at h
  have rr : ∀ d, 4 ≤ d → d ≤ 6 → runeAt s p d = some (l, n) → 1 ≤ n ∧ l.length ≤ n ∧ n ≤ 7 ∧ p + n ≤ s.size := by
    intro d hd hd6 hr
    unfold runeAt at hr
    split at hr
    · rename_i m hm
      have := hx d m hm (by omega)
      split at hr
      · cases hr
        have := enc_le (m : Int)
        omega
      · cases hr
    · cases hr
  by_cases c5 : byteN s p = 120
  · rw [if_pos c5] at h
    unfold byteAt at h
    split at h
    · rename_i m hm
      have := hx 2 m hm (by omega)
      cases h
      simp; omega
    · cases h
  rw [if_neg c5] at h
  by_cases c6 : byteN s p = 117
  · rw [if_pos c6] at h; exact rr 4 (by omega) (by omega) h
  rw [if_neg c6] at h
  by_cases c7 : byteN s p = 85
  · rw [if_pos c7] at h; exact rr 6 (by omega) (by omega) h
  rw [if_neg c7] at h
  cases h

def unescFrom (s : ByteArray) (k : Nat) (acc : List UInt8) : List UInt8 × Int × Int :=
  if k < s.size then
    if byteN s k = 92 then
      match seqAt s (k + 1) with
      | none => ([], (k : Int), 10)
      | some (l, n) => unescFrom s (k + 1 + n) (acc ++ l)
    else unescFrom s (k + 1) (acc ++ [s.get! k])
  else (acc, 0, 0)
termination_by s.size - k
def unescR (s : ByteArray) : List UInt8 × Int × Int := if 1048576 < s.size then ([], 0, 2) else unescFrom s 0 []
theorem un_end {s : ByteArray} {k : Nat} {acc : List UInt8} (h : ¬ k < s.size) : unescFrom s k acc = (acc, 0, 0) := by rw [unescFrom, if_neg h]
theorem un_byte {s : ByteArray} {k : Nat} {acc : List UInt8} (h : k < s.size) (hb : ¬ byteN s k = 92) : unescFrom s k acc = unescFrom s (k + 1) (acc ++ [s.get! k]) := by rw [unescFrom, if_pos h, if_neg hb]
theorem un_bad {s : ByteArray} {k : Nat} {acc : List UInt8} (h : k < s.size) (hb : byteN s k = 92) (hq : seqAt s (k + 1) = none) : unescFrom s k acc = ([], (k : Int), 10) := by
  rw [unescFrom, if_pos h, if_pos hb]
  split
  · rfl
  · rename_i l n h2
    rw [hq] at h2
    cases h2
theorem un_seq {s : ByteArray} {k n : Nat} {acc l : List UInt8} (h : k < s.size) (hb : byteN s k = 92) (hq : seqAt s (k + 1) = some (l, n)) : unescFrom s k acc = unescFrom s (k + 1 + n) (acc ++ l) := by
  rw [unescFrom, if_pos h, if_pos hb]
  split
  · rename_i h2
    rw [hq] at h2
    cases h2
  · rename_i l2 n2 h2
    rw [hq] at h2
    cases h2
    rfl

/-- a << 4 | v -/
theorem or16_i32 (a v : Nat) (ha : a < 134217728) (hv : v < 16) : bits .or .i32 ((a : Int) * 16) (v : Int) = ((a * 16 + v : Nat) : Int) := by
  have e : ((a : Int) * 16) = ((a * 16 : Nat) : Int) := by omega
  rw [e]
  show IntKind.i32.wrap ((BitVec.ofInt 32 ((a * 16 : Nat) : Int) ||| BitVec.ofInt 32 (v : Int)).toNat : Int) = _
  rw [BitVec.toNat_or, ofInt_u32 (a * 16) (by omega), ofInt_u32 v (by omega)]
  have h := Nat.shiftLeft_add_eq_or_of_lt (b := v) (i := 4) (by omega) a
  rw [Nat.shiftLeft_eq] at h
  rw [show a * 16 = a * 2 ^ 4 by omega, ← h]
  exact Lib.wrap_i32_small _ (by omega)
/-- string(r) of a rune that may be. -/
theorem encode_rune (n : Nat) (h : n < 55296 ∨ (57343 < n ∧ n ≤ 1114111)) : Utf8.encode (n : Int) = ⟨(Lib.encodeRune n).toArray⟩ := by
  have hv : Utf8.valid (n : Int) = true := by
    unfold Utf8.valid
    simp only [Bool.or_eq_true, Bool.and_eq_true, decide_eq_true_eq]
    omega
  unfold Utf8.encode Lib.encodeRune
  simp only [hv, if_true, Int.toNat_natCast]
  by_cases c1 : n < 128
  · rw [if_pos c1, Lib.encodeRuneZ_one (by omega) (by omega)]
    rfl
  rw [if_neg c1]
  by_cases c2 : n < 2048
  · rw [if_pos c2, Lib.encodeRuneZ_two (by omega) (by omega)]
    simp only [List.map_cons, List.map_nil]
    rw [show ((192 : Int) + (n : Int) / 64).toNat = 192 + n / 64 by omega, show ((128 : Int) + (n : Int) % 64).toNat = 128 + n % 64 by omega]
  rw [if_neg c2]
  by_cases c3 : n < 65536
  · rw [if_pos c3, Lib.encodeRuneZ_three (by omega)]
    simp only [List.map_cons, List.map_nil]
    rw [show ((224 : Int) + (n : Int) / 4096).toNat = 224 + n / 4096 by omega, show ((128 : Int) + (n : Int) / 64 % 64).toNat = 128 + n / 64 % 64 by omega, show ((128 : Int) + (n : Int) % 64).toNat = 128 + n % 64 by omega]
  rw [if_neg c3, Lib.encodeRuneZ_four (by omega) (by omega)]
  simp only [List.map_cons, List.map_nil]
  rw [show ((240 : Int) + (n : Int) / 262144).toNat = 240 + n / 262144 by omega, show ((128 : Int) + (n : Int) / 4096 % 64).toNat = 128 + n / 4096 % 64 by omega, show ((128 : Int) + (n : Int) / 64 % 64).toNat = 128 + n / 64 % 64 by omega, show ((128 : Int) + (n : Int) % 64).toNat = 128 + n % 64 by omega]
end Go.Proofs.YtgakophdgjepmaaDoor
