/- Hexadecimal digits, written. -/
import Derived.Test.YtgakophdgjepmaaDoorBuild
import Derived.Test.YtgakophdgjepmaaDoorLeaf
import Derived.Lib.QuoteBits
import Derived.Lib.Hide
namespace Go.Proofs.YtgakophdgjepmaaDoor
open Go.RowKit

/-- The letter of a digit. -/
def hexD (d : Nat) : UInt8 := if d < 10 then (48 + d).toUInt8 else (87 + d).toUInt8
/-- So many digits, the greatest first. -/
def hexTop (n : Nat) : Nat → List UInt8
  | 0 => []
  | p + 1 => hexD (n / 16 ^ p % 16) :: hexTop n p
theorem hexTop_length (n : Nat) : ∀ d, (hexTop n d).length = d
  | 0 => rfl
  | d + 1 => by simp [hexTop, hexTop_length n d]

theorem pow_two (k : Nat) : (2 : Int) ^ (4 * k) = ((16 ^ k : Nat) : Int) := by
  rw [Int.pow_mul]
  simp
theorem nibble (n k : Nat) (h : n < 2147483648) : bits BinOp.and IntKind.i32 ((n : Int) / 2 ^ (4 * k)) 15 = ((n / 16 ^ k % 16 : Nat) : Int) := by
  rw [pow_two]
  exact Lib.and15_shift n n rfl h (16 ^ k)
def hexText : ByteArray := ⟨#[48, 49, 50, 51, 52, 53, 54, 55, 56, 57, 97, 98, 99, 100, 101, 102]⟩
theorem hexAt (q : Nat) (h : q < 16) : (hexText[q]'h) = hexD q := (show ∀ q : Fin 16, (hexText[q.val]'q.isLt) = hexD q.val by decide) ⟨q, h⟩
theorem hexAt' (q : Nat) (h : q < (ByteArray.mk #[48, 49, 50, 51, 52, 53, 54, 55, 56, 57, 97, 98, 99, 100, 101, 102]).size) : ((ByteArray.mk #[48, 49, 50, 51, 52, 53, 54, 55, 56, 57, 97, 98, 99, 100, 101, 102])[q]'h) = hexD q := hexAt q h

set_option maxHeartbeats 1000000 in
set_option maxRecDepth 100000 in
theorem writeHex_any (B b : Nat) (bs : List Value) (c : Int) (n d : Nat) (w : World) (hn : n < 16777216) (hd : d ≤ 6) (h : Lib.IsBuilderF 40 5 B b bs w) (hlen : bs.length + 8 ≤ 140737488355328) (hBw : B ≤ w.heap.size) :
    Calls Tryd.prog 43 #[.pointer (some ⟨b, 0, none⟩), .int .u8 c, .int .i32 n, .int .i64 d] w fun e w' => e = .returned (.tuple #[]) ∧ Wrote B b (bs ++ [.int .u8 92, .int .u8 c] ++ Lib.byteCells (hexTop n d)) w w' := by
  go_enter Tryd.func43, Tryd.ntmps43
  go_wp2_with (go_at_call 46; refine (writeByte_any B b bs 92 _ h (by omega) hBw).mono ?_)
  rintro e W1 ⟨rfl, h1, b1, k1⟩
  have hs1 := b1.size
  go_wp2_with (go_at_call 46; refine (writeByte_any B b _ c _ (.inr h1) (by simp; omega) (by omega)).mono ?_)
  rintro e W2 ⟨rfl, h2, b2, k2⟩
  have hs2 := b2.size
  go_wp2
  go_loopw [8] (fun i wr => ∃ (p : Nat) (acc : List UInt8), p ≤ d ∧ i = .int .i64 ((p : Int) - 1) ∧ Lib.BuilderAtF 40 5 B b (.pointer (some ⟨b, 0, none⟩)) (bs ++ [.int .u8 92, .int .u8 c] ++ Lib.byteCells acc) wr ∧ Below B w wr ∧ Lib.OthersKept 5 (some b) w wr ∧ w.heap.size ≤ wr.heap.size ∧ acc ++ hexTop n p = hexTop n d ∧ acc.length + p = d) (fun i _ => (intOf i + 1).toNat)
  case atStart =>
    refine ⟨d, [], by omega, rfl, ?_, b1.trans b2, k1.trans k2, by omega, rfl, by simp⟩
    simpa [Lib.byteCells] using h2
  case round =>
    obtain ⟨p, acc, hp, rfl, hI, hbw, hk, hsz, hE, hal⟩ := hrel
    have HE := Lib.hid hE
    clear hE
    by_cases h0 : p = 0
    · subst h0
      go_wp2
      go_end0
      have e := HE.out
      simp only [hexTop, List.append_nil] at e
      exact ⟨rfl, by rw [← e]; exact hI, hbw, hk⟩
    · obtain ⟨k, rfl⟩ : ∃ k, p = k + 1 := ⟨p - 1, by omega⟩
      have hq := nibble n k (by omega)
      have HT : Hid (hexTop n (k + 1) = hexD (n / 16 ^ k % 16) :: hexTop n k) := rfl
      have hq16 : n / 16 ^ k % 16 < 16 := Nat.mod_lt _ (by omega)
      generalize n / 16 ^ k % 16 = q at *
      have hll : (bs ++ [Value.int .u8 92, Value.int .u8 c] ++ Lib.byteCells acc).length + 1 ≤ 140737488355328 := by
        simp only [List.length_append, List.length_cons, List.length_nil, Lib.byteCells_length]
        omega
      go_wp2_with (go_at_call 46; go_loud (refine (writeByte_any B b _ _ _ (.inr hI) hll (by omega)).mono ?_))
      rintro e W3 ⟨rfl, h3, b3, k3⟩
      rw [hexAt'] at h3
      have hs3 := b3.size
      go_wp2
      go_roundw
      case rel => exact ⟨k, acc ++ [hexD q], by omega, rfl, by rw [Lib.byteCells_append, ← List.append_assoc]; exact h3, hbw.trans b3, hk.trans k3, by omega, by rw [← HE.out, HT.out, List.append_assoc]; rfl, by rw [List.length_append]; simp; omega⟩
      case measure => simp [intOf]
end Go.Proofs.YtgakophdgjepmaaDoor
