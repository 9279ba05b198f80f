/- Bytes of decimals: digits, noughts, of both sides. -/
import Derived.Test.YtmggdnnffdaffaaDoorMkA
import Derived.Test.YtmggdnnffdaffaaDoorProg
import Derived.WalkKit
import Derived.WalkSpells
import Derived.WalkLawsBesides
import Derived.BigCall
import Derived.Laws.RangeAny
import Derived.Lib.Props
import Derived.Lib.Strings
import Derived.Lib.Hide
namespace Go.Proofs.YtmggdnnffdaffaaDoor
open Go.RowKit

/-- The byte at a place, 0 behind the end. -/
def byteN (s : ByteArray) (k : Nat) : Nat := (s.get! k).toNat
theorem byteN_lt (s : ByteArray) (k : Nat) : byteN s k < 256 := (s.get! k).toNat_lt
theorem byteN_at (s : ByteArray) (k : Nat) (h : k < s.size) : (s[k]'h).toNat = byteN s k := by
  unfold byteN; rw [← get_at s k h]; rfl
theorem byteN_list (s : ByteArray) (k : Nat) (h : k < s.data.toList.length) : (s.data.toList[k]'h).toNat = byteN s k := by
  rw [← byteN_at s k (by simpa using h)]
  rfl
theorem ret_bool {a b : Bool} (h : a = b) : Ending.returned (.bool a) = .returned (.bool b) := by rw [h]
theorem ret_int {k : IntKind} {a b : Int} (h : a = b) : Ending.returned (.int k a) = .returned (.int k b) := by rw [h]
theorem ret_str {a b : ByteArray} (h : a = b) : Ending.returned (.string a) = .returned (.string b) := by rw [h]

/-- All bytes are digits; all are noughts. -/
def dgB (s : ByteArray) : Bool := decide (∀ k, k < s.size → 48 ≤ byteN s k ∧ byteN s k ≤ 57)
def zrB (s : ByteArray) : Bool := decide (∀ k, k < s.size → byteN s k = 48)
theorem dgB_no {s : ByteArray} {k : Nat} (h : k < s.size) (hd : byteN s k < 48 ∨ 57 < byteN s k) : dgB s = false := by
  unfold dgB
  rw [decide_eq_false_iff_not]
  intro H
  have := H k h
  omega
theorem dgB_yes {s : ByteArray} {k : Nat} (h : ¬ k < s.size) (hd : ∀ j, j < k → 48 ≤ byteN s j ∧ byteN s j ≤ 57) : dgB s = true := decide_eq_true fun j hj => hd j (by omega)
theorem zrB_no {s : ByteArray} {k : Nat} (h : k < s.size) (hd : byteN s k ≠ 48) : zrB s = false := by
  unfold zrB
  rw [decide_eq_false_iff_not]
  intro H
  exact hd (H k h)
theorem zrB_yes {s : ByteArray} {k : Nat} (h : ¬ k < s.size) (hd : ∀ j, j < k → byteN s j = 48) : zrB s = true := decide_eq_true fun j hj => hd j (by omega)
theorem dgB_list (s : ByteArray) : dgB s = allD s.data.toList := by
  rw [Bool.eq_iff_iff]
  simp only [dgB, allD, isD, decide_eq_true_eq, List.all_eq_true]
  constructor
  · intro h b hb
    obtain ⟨k, hk, rfl⟩ := List.mem_iff_getElem.1 hb
    rw [byteN_list]
    exact h k (by simpa using hk)
  · intro h k hk
    have := h (s.data.toList[k]'(by simpa using hk)) (List.getElem_mem _)
    rw [byteN_list] at this
    exact this
theorem zrB_list (s : ByteArray) : zrB s = all0 s.data.toList := by
  rw [Bool.eq_iff_iff]
  simp only [zrB, all0, decide_eq_true_eq, List.all_eq_true]
  constructor
  · intro h b hb
    obtain ⟨k, hk, rfl⟩ := List.mem_iff_getElem.1 hb
    rw [byteN_list]
    exact h k (by simpa using hk)
  · intro h k hk
    have := h (s.data.toList[k]'(by simpa using hk)) (List.getElem_mem _)
    rw [byteN_list] at this
    exact this

set_option maxRecDepth 100000 in
theorem allDigits_any (s : ByteArray) (w : World) (hs : s.size ≤ maxLen) :
    Calls Tryd.prog 47 #[.string s] w fun e w' => e = .returned (.bool (dgB s)) ∧ w = w' := by
  unfold maxLen at hs
  go_enter Tryd.func47, Tryd.ntmps47
  go_wp2
  go_loop [6] (fun i => ∃ k : Nat, i = .int .i64 k ∧ k ≤ s.size ∧ ∀ j, j < k → 48 ≤ byteN s j ∧ byteN s j ≤ 57) (fun i => s.size - (intOf i).toNat)
  case atStart => exact ⟨0, rfl, by omega, fun j hj => by omega⟩
  case round =>
    obtain ⟨k, rfl, hk, hD⟩ := hrel
    have HD := Lib.hid hD
    clear hD
    by_cases hlt : k < s.size
    · have HK := Lib.hid (byteN_at s k hlt)
      by_cases h1 : s[k].toNat < 48
      · have q1 : decide ((s[k].toNat : Int) < 48) = true := decide_eq_true (by omega)
        have H1 := Lib.hid h1
        clear h1
        go_wp2
        go_ret
        exact ⟨ret_bool (dgB_no hlt (.inl (by rw [← HK.out]; exact H1.out))).symm, rfl⟩
      · have q1 : decide ((s[k].toNat : Int) < 48) = false := decide_eq_false (by omega)
        have H1 := Lib.hid h1
        clear h1
        by_cases h2 : 57 < s[k].toNat
        · have q2 : decide ((57 : Int) < (s[k].toNat : Int)) = true := decide_eq_true (by omega)
          have H2 := Lib.hid h2
          clear h2
          go_wp2
          go_ret
          exact ⟨ret_bool (dgB_no hlt (.inr (by rw [← HK.out]; exact H2.out))).symm, rfl⟩
        · have q2 : decide ((57 : Int) < (s[k].toNat : Int)) = false := decide_eq_false (by omega)
          have H2 := Lib.hid h2
          clear h2
          go_wp2
          go_round
          case rel =>
            refine ⟨k + 1, by go_num, by omega, fun j hj => ?_⟩
            by_cases e : j = k
            · subst e
              have a := H1.out
              have b := H2.out
              rw [HK.out] at a b
              omega
            · exact HD.out j (by omega)
          case measure => simp [intOf]; omega
    · go_wp2
      go_ret
      exact ⟨ret_bool (dgB_yes hlt HD.out).symm, rfl⟩

set_option maxRecDepth 100000 in
theorem allZeros_any (s : ByteArray) (w : World) (hs : s.size ≤ maxLen) :
    Calls Tryd.prog 58 #[.string s] w fun e w' => e = .returned (.bool (zrB s)) ∧ w = w' := by
  unfold maxLen at hs
  go_enter Tryd.func58, Tryd.ntmps58
  go_wp2
  go_loop [6] (fun i => ∃ k : Nat, i = .int .i64 k ∧ k ≤ s.size ∧ ∀ j, j < k → byteN s j = 48) (fun i => s.size - (intOf i).toNat)
  case atStart => exact ⟨0, rfl, by omega, fun j hj => by omega⟩
  case round =>
    obtain ⟨k, rfl, hk, hD⟩ := hrel
    have HD := Lib.hid hD
    clear hD
    by_cases hlt : k < s.size
    · have HK := Lib.hid (byteN_at s k hlt)
      by_cases h1 : s[k].toNat = 48
      · have q1 : ((s[k].toNat : Int) != 48) = false := by simp; omega
        have H1 := Lib.hid h1
        clear h1
        go_wp2
        go_round
        case rel =>
          refine ⟨k + 1, by go_num, by omega, fun j hj => ?_⟩
          by_cases e : j = k
          · subst e; rw [← HK.out]; exact H1.out
          · exact HD.out j (by omega)
        case measure => simp [intOf]; omega
      · have q1 : ((s[k].toNat : Int) != 48) = true := by simp; omega
        have H1 := Lib.hid h1
        clear h1
        go_wp2
        go_ret
        exact ⟨ret_bool (zrB_no hlt (by rw [← HK.out]; exact H1.out)).symm, rfl⟩
    · go_wp2
      go_ret
      exact ⟨ret_bool (zrB_yes hlt HD.out).symm, rfl⟩

/-- One of 0 to 9. -/
def digB (c : Int) : Bool := decide (48 ≤ c ∧ c ≤ 57)
end Go.Proofs.YtmggdnnffdaffaaDoor
