/- Valid and Repair of both sides tell validFrom and repairFrom, the plain functions below. -/
import Derived.Test.YtgakophdgjepmaaDoorRefName
import Derived.Test.YtgakophdgjepmaaDoorBuild
namespace Go.Proofs.YtgakophdgjepmaaDoor
open Go.RowKit

def validFrom (s : ByteArray) (pos : Nat) : Bool :=
  if pos < s.size then (if strayB s pos then false else validFrom s (pos + (Utf8.decode s pos).2)) else true
termination_by s.size - pos
decreasing_by have := dec_pos s pos; omega
theorem valid_bad {s : ByteArray} {pos : Nat} (h : pos < s.size) (hb : strayB s pos = true) : validFrom s pos = false := by rw [validFrom, if_pos h, if_pos hb]
theorem valid_next {s : ByteArray} {pos : Nat} (h : pos < s.size) (hb : strayB s pos = false) : validFrom s pos = validFrom s (pos + (Utf8.decode s pos).2) := by rw [validFrom, if_pos h, if_neg (by simp [hb])]
theorem valid_end {s : ByteArray} {pos : Nat} (h : ¬ pos < s.size) : validFrom s pos = true := by rw [validFrom, if_neg h]

set_option maxHeartbeats 1000000 in
set_option maxRecDepth 100000 in
theorem valid_any (s : ByteArray) (w : World) (hs : s.size ≤ maxLen) :
    Calls Tryd.prog 12 #[.string s] w fun e w' => e = .returned (.bool (validFrom s 0)) ∧ Below w.heap.size w w' := by
  have HM := Lib.hid hs
  unfold maxLen at hs
  go_enter Tryd.func12, Tryd.ntmps12
  go_wp2
  go_loopw [] (fun wr => ∃ pos : Nat, wr.heap[w.heap.size]? = some (.stringIter s pos) ∧ Below w.heap.size w wr ∧ validFrom s pos = validFrom s 0) (fun wr => s.size - wr.iterPos w.heap.size)
  case atStart => exact ⟨0, World.iter_heap w s 0, (Below.refl _ w).alloc (Nat.le_refl _) _, rfl⟩
  case round =>
    obtain ⟨pos, hit, hbw, hE⟩ := hrel
    have HE := Lib.hid hE
    clear hE
    by_cases hp : pos < s.size
    · have hnx : ∀ ty, (Instr.next (.pointer (some ⟨w.heap.size, 0, none⟩)) true ty).run Tryd.prog wr = _ := fun ty => Lib.run_next_any_at wr w.heap.size s pos ty hit hp
      have hwd := (dec_pos s pos).1
      have hit2 := Lib.iterAt_heap wr w.heap.size s pos (pos + (Utf8.decode s pos).2) hit
      have hbw2 := Lib.below_iterAt hbw (k := w.heap.size) (by omega) s (pos + (Utf8.decode s pos).2)
      by_cases hst : strayB s pos = true
      · go_wp2_with (go_at_call 31; refine (stray_any s pos _ hp HM.out).mono ?_; rintro e w' ⟨rfl, rfl⟩)
        go_ret
        exact ⟨ret_bool (by rw [← HE.out, valid_bad hp hst]), hbw2⟩
      · have hst' : strayB s pos = false := by simpa using hst
        clear hst
        go_wp2_with (go_at_call 31; refine (stray_any s pos _ hp HM.out).mono ?_; rintro e w' ⟨rfl, rfl⟩)
        go_roundw
        case rel => exact ⟨pos + (Utf8.decode s pos).2, hit2, hbw2, by rw [← HE.out]; exact (valid_next hp hst').symm⟩
        case measure =>
          simp only [World.iterPos, hit2, hit]
          omega
    · have hnx : ∀ ty, (Instr.next (.pointer (some ⟨w.heap.size, 0, none⟩)) true ty).run Tryd.prog wr = _ := fun ty => Lib.run_next_end_at wr w.heap.size s pos ty hit hp
      go_wp2
      go_ret
      exact ⟨ret_bool (by rw [← HE.out, valid_end hp]), hbw⟩

set_option maxHeartbeats 1000000 in
set_option maxRecDepth 100000 in
theorem refValid_any (s : ByteArray) (w : World) (hs : s.size ≤ maxLen) :
    Calls Tryd.prog 13 #[.string s] w fun e w' => e = .returned (.bool (validFrom s 0)) ∧ w = w' := by
  have HM := Lib.hid hs
  unfold maxLen at hs
  go_enter Tryd.func13, Tryd.ntmps13
  go_wp2
  go_loop [3] (fun i => ∃ pos : Nat, i = .int .i64 pos ∧ pos ≤ s.size ∧ validFrom s pos = validFrom s 0) (fun i => s.size - (intOf i).toNat)
  case atStart => exact ⟨0, rfl, by omega, rfl⟩
  case round =>
    obtain ⟨pos, rfl, hpl, hE⟩ := hrel
    have HE := Lib.hid hE
    clear hE
    by_cases hp : pos < s.size
    · have hwd := dec_pos s pos
      have hws := dec_le_size s pos hp
      have hmx := dec_max s pos
      by_cases hst : strayB s pos = true
      · go_wp2_with (go_at_call 32; refine (step_stray s pos _ hp HM.out hst).mono ?_; rintro e w' ⟨rfl, rfl⟩)
        go_ret
        exact ⟨ret_bool (by rw [← HE.out, valid_bad hp hst]), rfl⟩
      · have hst' : strayB s pos = false := by simpa using hst
        clear hst
        go_wp2_with (go_at_call 32; refine (step_rune s pos _ hp HM.out hst').mono ?_; rintro e w' ⟨rfl, rfl⟩)
        go_round
        case rel => exact ⟨pos + (Utf8.decode s pos).2, by go_num, hws, by rw [← HE.out]; exact (valid_next hp hst').symm⟩
        case measure => simp [intOf]; omega
    · go_wp2
      go_ret
      exact ⟨ret_bool (by rw [← HE.out, valid_end hp]), rfl⟩
end Go.Proofs.YtgakophdgjepmaaDoor
