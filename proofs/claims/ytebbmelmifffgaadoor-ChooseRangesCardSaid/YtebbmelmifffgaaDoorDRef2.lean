/- Small pieces of the reference: If, First, Lead, Zeros, Num. -/
import Derived.Test.YtebbmelmifffgaaDoorDSum
namespace Go.Proofs.YtebbmelmifffgaaDoor
open Go.RowKit
attribute [local go_sem ↓] Go.wp_at_zero Go.wp_at_succ

theorem ret_i {a b : Int} (h : a = b) : Ending.returned (.int .i64 a) = .returned (.int .i64 b) := by rw [h]
theorem ret_s {a b : ByteArray} (h : a = b) : Ending.returned (.string a) = .returned (.string b) := by rw [h]
def ifE (b : Bool) (e : Int) : Int := if b then e else 0
def firstE (e1 e2 : Int) : Int := if e1 = 0 then e2 else e1
set_option maxRecDepth 100000 in
theorem refFirst_two (e1 e2 : Int) (g : Nat) (t : TypeId) (fr : Nat × Nat) (w : World) (hg : w.heap[g]? = some (.cells #[.int .i64 e1, .int .i64 e2] t fr)) :
    Calls Tryd.prog 43 #[.slice (some ⟨g, 0, none⟩) 2 2] w fun r w' => r = .returned (.int .i64 (firstE e1 e2)) ∧ w = w' := by
  have c0 : w.cell? ⟨g, 0, none⟩ = some (.int .i64 e1) := by rw [cell_of_row w g 0 _ _ _ hg]; rfl
  have c1 : w.cell? ⟨g, 1, none⟩ = some (.int .i64 e2) := by rw [cell_of_row w g 1 _ _ _ hg]; rfl
  clear hg
  go_enter Tryd.func43, Tryd.ntmps43
  go_wp2
  go_loop [3] (fun i => ∃ k : Nat, i = .int .i64 k ∧ k ≤ 2 ∧ (0 < k → e1 = 0) ∧ (1 < k → e2 = 0)) (fun i => 2 - (intOf i).toNat)
  case atStart => exact ⟨0, rfl, by omega, fun h => by omega, fun h => by omega⟩
  case round =>
    obtain ⟨k, rfl, hk, h1, h2⟩ := hrel
    have H1 := Lib.hid h1
    have H2 := Lib.hid h2
    clear h1 h2
    rcases (by omega : k = 0 ∨ k = 1 ∨ k = 2) with rfl | rfl | rfl
    · by_cases e : e1 = 0
      · have q : (e1 != 0) = false := by simpa using e
        have HE := Lib.hid e
        clear e
        go_wp2
        go_round
        case rel => exact ⟨1, rfl, by omega, fun _ => HE.out, fun h => by omega⟩
        case measure => simp [intOf]
      · have q : (e1 != 0) = true := by simpa using e
        have HQ := Lib.hid (show firstE e1 e2 = e1 from if_neg e)
        clear e
        go_wp2
        go_ret
        exact ⟨ret_i HQ.out.symm, rfl⟩
    · have HQ := Lib.hid (show firstE e1 e2 = e2 from if_pos (H1.out (by omega)))
      by_cases e : e2 = 0
      · have q : (e2 != 0) = false := by simpa using e
        have HE := Lib.hid e
        clear e
        go_wp2
        go_round
        case rel => exact ⟨2, rfl, by omega, fun _ => H1.out (by omega), fun _ => HE.out⟩
        case measure => simp [intOf]
      · have q : (e2 != 0) = true := by simpa using e
        clear e
        go_wp2
        go_ret
        exact ⟨ret_i HQ.out.symm, rfl⟩
    · have HQ := Lib.hid (show firstE e1 e2 = 0 by rw [firstE, if_pos (H1.out (by omega)), H2.out (by omega)])
      go_wp2
      go_ret
      exact ⟨ret_i HQ.out.symm, rfl⟩

def sizeOfStr (v : Value) : Nat := match v with | .string s => s.size | _ => 0
/-- A string made of a block's bytes, where nothing draws. -/
theorem blk_stringQ (w : World) (g : Nat) (P Q : List Nat) (off n cap : Nat) (S : ByteArray) (hS : S = dStr Q) (h : Blk w g (Lib.byteCells (dB P))) (hQ : (P.drop off).take n = Q) (hl : off + n ≤ P.length) :
    (convert 115 9 (.slice (some ⟨g, off, none⟩) n cap)).run Tryd.prog w = .ok (.string S) w := by
  have e : (((dB P).drop off).take n).length = n := by rw [List.length_take, List.length_drop, dB_len]; omega
  have := run_convert_bytes_back (P := Tryd.prog) w 115 9 5 ⟨g, off, none⟩ cap (((dB P).drop off).take n) Tryd.underlying115 Tryd.underlying5 Tryd.underlying9 (by
    intro j hj
    have hj' : j < n := by rw [e] at hj; exact hj
    have hadd : (⟨g, off, none⟩ : Addr).add j = ⟨g, off + j, none⟩ := by unfold Addr.add; split <;> simp_all
    rw [hadd, h.cell]
    have hjl : off + j < (dB P).length := by rw [dB_len]; omega
    unfold Lib.byteCells
    rw [List.getElem?_map, List.getElem?_eq_getElem hjl]
    simp)
  rw [e] at this
  rw [this, hS, ← hQ]
  unfold dStr dB
  simp [List.map_take, List.map_drop]

end Go.Proofs.YtebbmelmifffgaaDoor
