/- Trimmed texts: plain facts. -/
import Derived.Test.YtgakophdgjepmaaDoorLeaf
namespace Go.Proofs.YtgakophdgjepmaaDoor
open Go

/-- White space stands at a place. -/
def wsB (s : ByteArray) (pos : Nat) : Bool := spB (Utf8.decode s pos).1
def firstFrom (s : ByteArray) (pos : Nat) : Nat :=
  if pos < s.size then (if wsB s pos then firstFrom s (pos + (Utf8.decode s pos).2) else pos) else pos
termination_by s.size - pos
decreasing_by have := dec_pos s pos; omega
def lastFrom (s : ByteArray) (pos e : Nat) : Nat :=
  if pos < s.size then lastFrom s (pos + (Utf8.decode s pos).2) (if wsB s pos then e else pos + (Utf8.decode s pos).2) else e
termination_by s.size - pos
decreasing_by have := dec_pos s pos; omega
theorem first_ws {s : ByteArray} {pos : Nat} (h : pos < s.size) (hb : wsB s pos = true) : firstFrom s pos = firstFrom s (pos + (Utf8.decode s pos).2) := by rw [firstFrom, if_pos h, if_pos hb]
theorem first_no {s : ByteArray} {pos : Nat} (h : pos < s.size) (hb : wsB s pos = false) : firstFrom s pos = pos := by rw [firstFrom, if_pos h, if_neg (by simp [hb])]
theorem first_end {s : ByteArray} {pos : Nat} (h : ¬ pos < s.size) : firstFrom s pos = pos := by rw [firstFrom, if_neg h]
theorem last_ws {s : ByteArray} {pos e : Nat} (h : pos < s.size) (hb : wsB s pos = true) : lastFrom s pos e = lastFrom s (pos + (Utf8.decode s pos).2) e := by rw [lastFrom, if_pos h, if_pos hb]
theorem last_no {s : ByteArray} {pos e : Nat} (h : pos < s.size) (hb : wsB s pos = false) : lastFrom s pos e = lastFrom s (pos + (Utf8.decode s pos).2) (pos + (Utf8.decode s pos).2) := by rw [lastFrom, if_pos h, if_neg (by simp [hb])]
theorem last_end {s : ByteArray} {pos e : Nat} (h : ¬ pos < s.size) : lastFrom s pos e = e := by rw [lastFrom, if_neg h]

theorem first_le (s : ByteArray) : ∀ (n pos : Nat), s.size - pos ≤ n → pos ≤ s.size → pos ≤ firstFrom s pos ∧ firstFrom s pos ≤ s.size ∧ (firstFrom s pos < s.size → wsB s (firstFrom s pos) = false) ∧ ∀ e, lastFrom s pos e = lastFrom s (firstFrom s pos) e := by
  intro n
  induction n with
  | zero =>
    intro pos h hp
    rw [first_end (by omega)]
    exact ⟨by omega, by omega, fun h => by omega, fun _ => rfl⟩
  | succ n ih =>
    intro pos h hp
    by_cases c : pos < s.size
    · have hd := dec_pos s pos
      have hl := dec_le_size s pos c
      by_cases hb : wsB s pos = true
      · have ⟨i1, i2, i3, i4⟩ := ih (pos + (Utf8.decode s pos).2) (by omega) hl
        rw [first_ws c hb]
        exact ⟨by omega, i2, i3, fun e => by rw [last_ws c hb, i4]⟩
      · have hb' : wsB s pos = false := by simpa using hb
        rw [first_no c hb']
        exact ⟨by omega, by omega, fun _ => hb', fun _ => rfl⟩
    · rw [first_end c]
      exact ⟨by omega, by omega, fun h => by omega, fun _ => rfl⟩
theorem last_le (s : ByteArray) : ∀ (n pos e : Nat), s.size - pos ≤ n → pos ≤ s.size → e ≤ pos → lastFrom s pos e ≤ s.size ∧ (lastFrom s pos e = e ∨ pos < lastFrom s pos e) := by
  intro n
  induction n with
  | zero =>
    intro pos e h hp he
    rw [last_end (by omega)]
    exact ⟨by omega, .inl rfl⟩
  | succ n ih =>
    intro pos e h hp he
    by_cases c : pos < s.size
    · have hd := dec_pos s pos
      have hl := dec_le_size s pos c
      by_cases hb : wsB s pos = true
      · have := ih (pos + (Utf8.decode s pos).2) e (by omega) hl (by omega)
        rw [last_ws c hb]
        omega
      · have := ih (pos + (Utf8.decode s pos).2) (pos + (Utf8.decode s pos).2) (by omega) hl (by omega)
        rw [last_no c (by simpa using hb)]
        omega
    · rw [last_end c]
      exact ⟨by omega, .inl rfl⟩

def trimB (s : ByteArray) : Nat := firstFrom s 0
def trimE (s : ByteArray) : Nat := lastFrom s (trimB s) (trimB s)
def trimmed (s : ByteArray) : ByteArray := s.extract (trimB s) (trimE s)

/-- The program's end: nought just where nothing but white space stands there. -/
theorem last_zero (s : ByteArray) : (lastFrom s 0 0 = 0 ∧ trimB s = trimE s) ∨ (0 < lastFrom s 0 0 ∧ lastFrom s 0 0 = trimE s ∧ trimB s < trimE s ∧ wsB s (trimB s) = false ∧ trimB s < s.size) := by
  have ⟨h1, h2, h3, h4⟩ := first_le s s.size 0 (by omega) (by omega)
  unfold trimE trimB
  rw [h4]
  by_cases c : firstFrom s 0 < s.size
  · have hb := h3 c
    have hd := dec_pos s (firstFrom s 0)
    have hl := dec_le_size s _ c
    have := last_le s s.size (firstFrom s 0 + (Utf8.decode s (firstFrom s 0)).2) (firstFrom s 0 + (Utf8.decode s (firstFrom s 0)).2) (by omega) hl (by omega)
    rw [last_no c hb, last_no c hb]
    exact .inr ⟨by omega, rfl, by omega, hb, c⟩
  · rw [last_end c, last_end c]
    exact .inl ⟨rfl, rfl⟩
theorem trimE_le (s : ByteArray) : trimE s ≤ s.size ∧ trimB s ≤ trimE s := by
  have ⟨h1, h2, _, _⟩ := first_le s s.size 0 (by omega) (by omega)
  have := last_le s s.size (firstFrom s 0) (firstFrom s 0) (by omega) h2 (by omega)
  unfold trimE trimB
  omega

theorem byteN_sub (s : ByteArray) (b e j : Nat) (he : e ≤ s.size) (h : b + j < e) : byteN (s.extract b e) j = byteN s (b + j) := by
  have hs : (s.extract b e).size = e - b := by simp; omega
  rw [← byteN_at _ j (by omega), ← byteN_at s (b + j) (by omega)]
  simp [ByteArray.getElem_extract]
/-- Reading within a part, where the rune lies within it. -/
theorem dec_sub (s : ByteArray) (b e i : Nat) (he : e ≤ s.size) (h : b + i + (Utf8.decode s (b + i)).2 ≤ e) : Utf8.decode (s.extract b e) i = Utf8.decode s (b + i) := by
  have hs : (s.extract b e).size = e - b := by simp; omega
  have hd := (dec_pos s (b + i)).1
  have b0 := byteN_sub s b e i he (by omega)
  rcases dec_cases s (b + i) with c | ⟨hb, c⟩ | ⟨r, c, r0, r1, hz, h0, h1⟩ | ⟨r, c, r0, r1, rn, hz, h0, h1, h2⟩ | ⟨r, c, r0, r1, hz, h0, h1, h2, h3⟩
  · rw [c]
    rcases dec_cases (s.extract b e) i with d | ⟨hb, d⟩ | ⟨r, d, r0, r1, hz, h0, h1⟩ | ⟨r, d, r0, r1, rn, hz, h0, h1, h2⟩ | ⟨r, d, r0, r1, hz, h0, h1, h2, h3⟩
    · exact d
    · rw [dec_one s (b + i) (by omega)] at c
      rw [d, b0]; exact c
    · have b1 := byteN_sub s b e (i + 1) he (by omega)
      rw [← Nat.add_assoc] at b1
      rw [dec_two s (b + i) r (by omega) (by omega) (by omega) (by omega) (by omega)] at c
      rw [d]; exact c
    · have b1 := byteN_sub s b e (i + 1) he (by omega)
      have b2 := byteN_sub s b e (i + 2) he (by omega)
      rw [← Nat.add_assoc] at b1 b2
      rw [dec_three s (b + i) r (by omega) (by omega) (by omega) (by omega) (by omega) (by omega) (by omega)] at c
      rw [d]; exact c
    · have b1 := byteN_sub s b e (i + 1) he (by omega)
      have b2 := byteN_sub s b e (i + 2) he (by omega)
      have b3 := byteN_sub s b e (i + 3) he (by omega)
      rw [← Nat.add_assoc] at b1 b2 b3
      rw [dec_four s (b + i) r (by omega) (by omega) (by omega) (by omega) (by omega) (by omega) (by omega) (by omega)] at c
      rw [d]; exact c
  · rw [c, dec_one _ i (by omega), b0]
  · rw [c] at h ⊢
    simp only at h
    have b1 := byteN_sub s b e (i + 1) he (by omega)
    rw [← Nat.add_assoc] at b1
    exact dec_two _ i r (by omega) (by omega) (by omega) (by omega) (by omega)
  · rw [c] at h ⊢
    simp only at h
    have b1 := byteN_sub s b e (i + 1) he (by omega)
    have b2 := byteN_sub s b e (i + 2) he (by omega)
    rw [← Nat.add_assoc] at b1 b2
    exact dec_three _ i r (by omega) (by omega) (by omega) (by omega) (by omega) (by omega) (by omega)
  · rw [c] at h ⊢
    simp only at h
    have b1 := byteN_sub s b e (i + 1) he (by omega)
    have b2 := byteN_sub s b e (i + 2) he (by omega)
    have b3 := byteN_sub s b e (i + 3) he (by omega)
    rw [← Nat.add_assoc] at b1 b2 b3
    exact dec_four _ i r (by omega) (by omega) (by omega) (by omega) (by omega) (by omega) (by omega) (by omega)

theorem last_sub (s : ByteArray) (b e : Nat) (he : e ≤ s.size) : ∀ (n i y : Nat), s.size - (b + i) ≤ n → b + i ≤ e → y ≤ i → lastFrom s (b + i) (b + y) = e → lastFrom (s.extract b e) i y = e - b := by
  have hs : (s.extract b e).size = e - b := by simp; omega
  intro n
  induction n with
  | zero =>
    intro i y h hi hy hE
    rw [last_end (by omega)] at hE ⊢
    omega
  | succ n ih =>
    intro i y h hi hy hE
    by_cases c : b + i < e
    · have hd := dec_pos s (b + i)
      have hl := dec_le_size s (b + i) (by omega)
      have hw : b + i + (Utf8.decode s (b + i)).2 ≤ e := by
        by_cases hb : wsB s (b + i) = true
        · rw [last_ws (by omega) hb] at hE
          have := last_le s s.size (b + i + (Utf8.decode s (b + i)).2) (b + y) (by omega) hl (by omega)
          omega
        · rw [last_no (by omega) (by simpa using hb)] at hE
          have := last_le s s.size (b + i + (Utf8.decode s (b + i)).2) (b + i + (Utf8.decode s (b + i)).2) (by omega) hl (by omega)
          omega
      have hdec := dec_sub s b e i he hw
      have hws : wsB (s.extract b e) i = wsB s (b + i) := by unfold wsB; rw [hdec]
      by_cases hb : wsB s (b + i) = true
      · rw [last_ws (by omega) hb] at hE
        rw [last_ws (by omega) (by rw [hws]; exact hb), hdec]
        exact ih (i + (Utf8.decode s (b + i)).2) y (by omega) (by omega) (by omega) (by rw [← Nat.add_assoc]; exact hE)
      · have hb' : wsB s (b + i) = false := by simpa using hb
        rw [last_no (by omega) hb'] at hE
        rw [last_no (by omega) (by rw [hws]; exact hb'), hdec]
        exact ih (i + (Utf8.decode s (b + i)).2) (i + (Utf8.decode s (b + i)).2) (by omega) (by omega) (by omega) (by rw [← Nat.add_assoc]; exact hE)
    · have := last_le s s.size (b + i) (b + y) (by omega) (by omega) (by omega)
      rw [last_end (by omega)]
      omega

/-- Twice is once. -/
theorem trimmed_again (s : ByteArray) : trimmed (trimmed s) = trimmed s := by
  have ⟨h1, h2⟩ := trimE_le s
  have hs : (trimmed s).size = trimE s - trimB s := by unfold trimmed; simp; omega
  have whole : ∀ t : ByteArray, t.extract 0 t.size = t := fun t => by
    apply ByteArray.ext
    apply Array.ext'
    rw [Lib.extract_data, Nat.sub_zero, List.drop_zero, List.take_of_length_le (by simp)]
  rcases last_zero s with ⟨_, h⟩ | ⟨_, _, hlt, hb, hsz⟩
  · have h0 : (trimmed s).size = 0 := by omega
    have b0 : trimB (trimmed s) = 0 := first_end (by omega)
    have e0 : trimE (trimmed s) = 0 := by unfold trimE; rw [b0]; exact last_end (by omega)
    rw [show trimmed (trimmed s) = (trimmed s).extract (trimB (trimmed s)) (trimE (trimmed s)) from rfl, b0, e0]
    have := whole (trimmed s)
    rw [h0] at this
    exact this
  · have hd := dec_pos s (trimB s)
    have hE : lastFrom s (trimB s + 0) (trimB s + 0) = trimE s := rfl
    have hl := dec_le_size s _ hsz
    have hw : trimB s + 0 + (Utf8.decode s (trimB s + 0)).2 ≤ trimE s := by
      simp only [Nat.add_zero] at hE ⊢
      rw [last_no hsz hb] at hE
      have := last_le s s.size (trimB s + (Utf8.decode s (trimB s)).2) (trimB s + (Utf8.decode s (trimB s)).2) (by omega) hl (by omega)
      omega
    have hdec := dec_sub s (trimB s) (trimE s) 0 h1 hw
    have b0 : trimB (trimmed s) = 0 := by
      refine first_no (by omega) ?_
      unfold wsB trimmed
      rw [hdec]
      exact hb
    have e0 : trimE (trimmed s) = trimE s - trimB s := by
      unfold trimE
      rw [b0]
      exact last_sub s (trimB s) (trimE s) h1 s.size 0 0 (by omega) (by omega) (by omega) hE
    rw [show trimmed (trimmed s) = (trimmed s).extract (trimB (trimmed s)) (trimE (trimmed s)) from rfl, b0, e0, ← hs]
    exact whole _
end Go.Proofs.YtgakophdgjepmaaDoor
