/- The reference's hexadecimal digits. -/
import Derived.Test.YtgakophdgjepmaaDoorHex
import Derived.Test.YtgakophdgjepmaaDoorRow
namespace Go.Proofs.YtgakophdgjepmaaDoor
open Go.RowKit

/-- string([]byte{..}) of bytes that were just laid. -/
theorem new_string (w : World) (l : List UInt8) (cs : Array Value) (n : Nat) (hcs : cs = (Lib.byteCells l).toArray) (hn : n = l.length) (hm : n ≤ maxLen) :
    (convert 38 9 (.slice (some ⟨w.heap.size, 0, none⟩) n n)).run Tryd.prog (w.alloc (.cells cs 5)) = .ok (.string ⟨l.toArray⟩) (w.alloc (.cells cs 5)) := by
  refine row_string (B := w.heap.size) ?_
  unfold Row
  have h := World.ownsRow_lit (base := w.heap.size) (e := 5) (size := 1) w cs n (Nat.le_refl _) hm (by rw [hcs, hn]; simp [Lib.byteCells])
  rw [← hn]
  have e : cs.toList = Lib.byteCells l := by rw [hcs]
  rw [← e]
  exact h

theorem hexD_low_nat {m : Nat} {b : UInt8} (h : m % 16 < 10) (hb : b = hexD (m % 16)) : (b.toNat : Int) = 48 + (m : Int) % 16 := by
  rw [hb, show hexD (m % 16) = (48 + m % 16).toUInt8 from if_pos h]
  simp
  omega
theorem hexD_high_nat {m : Nat} {b : UInt8} (h16 : m % 16 < 16) (h : ¬ m % 16 < 10) (hb : b = hexD (m % 16)) : (b.toNat : Int) = 97 + (m : Int) % 16 - 10 := by
  rw [hb, show hexD (m % 16) = (87 + m % 16).toUInt8 from if_neg h]
  simp
  omega
theorem cells_of {b : UInt8} {c : Int} (h : (b.toNat : Int) = c) : #[Value.int .u8 c] = (Lib.byteCells [b]).toArray := by rw [← h]; rfl
theorem cat_str (a b : List UInt8) : (⟨a.toArray⟩ : ByteArray) ++ ⟨b.toArray⟩ = ⟨(a ++ b).toArray⟩ := by
  apply ByteArray.ext
  rw [ByteArray.data_append]
  simp
theorem str_cons (a : UInt8) (l : List UInt8) : Value.string ((⟨#[a]⟩ : ByteArray) ++ ⟨l.toArray⟩) = .string ⟨(a :: l).toArray⟩ := by
  rw [show (⟨#[a]⟩ : ByteArray) = ⟨[a].toArray⟩ from rfl, cat_str]
  rfl

set_option maxHeartbeats 1000000 in
set_option maxRecDepth 100000 in
theorem refHex_any (n d : Nat) (w : World) (hn : n < 16777216) (hd : d ≤ 6) :
    Calls Tryd.prog 45 #[.int .i64 n, .int .i64 d] w fun e w' => e = .returned (.string ⟨(hexTop n d).toArray⟩) ∧ Below w.heap.size w w' := by
  go_enter Tryd.func45, Tryd.ntmps45
  go_wp2
  go_loopw [0, 5, 6] (fun m o i wr => ∃ k : Nat, k ≤ d ∧ i = .int .i64 k ∧ m = .int .i64 ((n / 16 ^ k : Nat) : Int) ∧ o = .string ⟨(hexTop n k).toArray⟩ ∧ Below w.heap.size w wr) (fun _ _ i _ => d - (intOf i).toNat)
  case atStart => exact ⟨0, by omega, rfl, by simp, rfl, Below.refl _ _⟩
  case round =>
    obtain ⟨k, hk, rfl, rfl, rfl, hbw⟩ := hrel
    have hsz := hbw.size
    by_cases hlt : k < d
    · have HT : Hid (hexTop n (k + 1) = hexD (n / 16 ^ k % 16) :: hexTop n k) := rfl
      have HN := Lib.hid (show n / 16 ^ (k + 1) = n / 16 ^ k / 16 by rw [Nat.pow_succ, Nat.div_div_eq_div_mul])
      have hl6 : (hexTop n k).length ≤ 6 := by rw [hexTop_length]; omega
      have hm : n / 16 ^ k ≤ 16777216 := by have := Nat.div_le_self n (16 ^ k); omega
      generalize n / 16 ^ k = m at *
      obtain ⟨b, hb⟩ : ∃ b, b = hexD (m % 16) := ⟨_, rfl⟩
      have HB := Lib.hid hb
      rw [← hb] at HT
      clear hb
      have HT := Lib.hid HT
      by_cases h10 : m % 16 < 10
      · have kc := fun (wx : World) => new_string wx [b] #[.int .u8 (48 + (m : Int) % 16)] 1 (cells_of (hexD_low_nat h10 HB.out)) rfl (by decide)
        go_wp2
        go_roundw
        case rel => exact ⟨k + 1, by omega, by go_num, by rw [HN.out]; go_num, by rw [HT.out]; exact str_cons _ _, (hbw.alloc (by omega) _)⟩
        case measure => simp [intOf]; omega
      · have kc := fun (wx : World) => new_string wx [b] #[.int .u8 (97 + (m : Int) % 16 - 10)] 1 (cells_of (hexD_high_nat (Nat.mod_lt m (by omega)) h10 HB.out)) rfl (by decide)
        go_wp2
        go_roundw
        case rel => exact ⟨k + 1, by omega, by go_num, by rw [HN.out]; go_num, by rw [HT.out]; exact str_cons _ _, (hbw.alloc (by omega) _)⟩
        case measure => simp [intOf]; omega
    · obtain rfl : k = d := by omega
      go_wp2
      go_ret
      exact ⟨rfl, hbw⟩
end Go.Proofs.YtgakophdgjepmaaDoor
