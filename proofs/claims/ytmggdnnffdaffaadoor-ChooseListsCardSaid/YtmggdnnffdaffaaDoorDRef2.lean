/- Small pieces of the reference: If, First, Lead, Zeros, Num. -/
import Derived.Test.YtmggdnnffdaffaaDoorDSum
namespace Go.Proofs.YtmggdnnffdaffaaDoor
open Go.RowKit
attribute [local go_sem ↓] Go.wp_at_zero Go.wp_at_succ

theorem ret_i {a b : Int} (h : a = b) : Ending.returned (.int .i64 a) = .returned (.int .i64 b) := by rw [h]
theorem ret_s {a b : ByteArray} (h : a = b) : Ending.returned (.string a) = .returned (.string b) := by rw [h]
def ifE (b : Bool) (e : Int) : Int := if b then e else 0
def firstE (e1 e2 : Int) : Int := if e1 = 0 then e2 else e1
def sizeOfStr (v : Value) : Nat := match v with | .string s => s.size | _ => 0
/-- A string made of a block's bytes, where nothing draws. -/
theorem blk_stringQ (w : World) (g : Nat) (P Q : List Nat) (off n cap : Nat) (S : ByteArray) (hS : S = dStr Q) (h : Blk w g (Lib.byteCells (dB P))) (hQ : (P.drop off).take n = Q) (hl : off + n ≤ P.length) :
    (convert 71 9 (.slice (some ⟨g, off, none⟩) n cap)).run Tryd.prog w = .ok (.string S) w := by
  have e : (((dB P).drop off).take n).length = n := by rw [List.length_take, List.length_drop, dB_len]; omega
  have := run_convert_bytes_back (P := Tryd.prog) w 71 9 5 ⟨g, off, none⟩ cap (((dB P).drop off).take n) Tryd.underlying71 Tryd.underlying5 Tryd.underlying9 (by
    intro j hj
    have hj' : j < n := by rw [e] at hj; exact hj
    have hadd : (⟨g, off, none⟩ : Addr).add j = ⟨g, off + j, none⟩ := by unfold Addr.add; split <;> simp_all
    rw [hadd, h.cell]
    have hjl : off + j < (dB P).length := by rw [dB_len]; omega
    unfold Lib.byteCells
    rw [List.getElem?_map, List.getElem?_eq_getElem hjl]
    simp)
  rw [e] at this
  rw [this, hS, ← hQ]
  unfold dStr dB
  simp [List.map_take, List.map_drop]

end Go.Proofs.YtmggdnnffdaffaaDoor
