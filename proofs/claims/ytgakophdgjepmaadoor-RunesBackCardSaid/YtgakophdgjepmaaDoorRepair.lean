/- Repair of both sides tells repairFrom, for texts of at most 2^45 bytes. -/
import Derived.Test.YtgakophdgjepmaaDoorValid
import Derived.Test.YtgakophdgjepmaaDoorRow
namespace Go.Proofs.YtgakophdgjepmaaDoor
open Go.RowKit

def repairFrom (s : ByteArray) (pos : Nat) : List UInt8 :=
  if pos < s.size then Lib.encodeRune (Utf8.decode s pos).1 ++ repairFrom s (pos + (Utf8.decode s pos).2) else []
termination_by s.size - pos
decreasing_by have := dec_pos s pos; omega
theorem repair_next {s : ByteArray} {pos : Nat} (h : pos < s.size) : repairFrom s pos = Lib.encodeRune (Utf8.decode s pos).1 ++ repairFrom s (pos + (Utf8.decode s pos).2) := by rw [repairFrom, if_pos h]
theorem repair_end {s : ByteArray} {pos : Nat} (h : ¬ pos < s.size) : repairFrom s pos = [] := by rw [repairFrom, if_neg h]
theorem enc_le (r : Int) : (Lib.encodeRune r).length ≤ 4 := by
  have := (Lib.encodeRuneZ_length r).2
  simpa [Lib.encodeRune] using this

set_option maxHeartbeats 2000000 in
set_option maxRecDepth 100000 in
theorem repair_any (s : ByteArray) (w : World) (hs : s.size ≤ 35184372088832) :
    Calls Tryd.prog 14 #[.string s] w fun e w' => e = .returned (.string ⟨(repairFrom s 0).toArray⟩) ∧ Below w.heap.size w w' := by
  go_enter Tryd.func14, Tryd.ntmps14
  go_wp2
  go_loopw [] (fun wr => ∃ (pos : Nat) (acc : List UInt8), Lib.IsBuilderF 40 5 w.heap.size w.heap.size (Lib.byteCells acc) wr ∧ wr.heap[w.heap.size + 1]? = some (.stringIter s pos) ∧ Below w.heap.size w wr ∧ acc ++ repairFrom s pos = repairFrom s 0 ∧ acc.length ≤ 4 * pos) (fun wr => s.size - wr.iterPos (w.heap.size + 1))
  case atStart =>
    refine ⟨0, [], (Lib.IsBuilderF.of (Lib.fresh_isBuilder _ _ w)).alloc _, ?_, ((Below.refl _ w).alloc (Nat.le_refl _) _).alloc (by simp) _, rfl, by simp⟩
    have := World.iter_heap (w.alloc (.cells #[.pointer none, .slice none 0 0] 40)) s 0
    simpa using this
  case round =>
    obtain ⟨pos, acc, hI, hit, hbw, hE, hal⟩ := hrel
    have HE := Lib.hid hE
    clear hE
    have hsz : w.heap.size + 1 < wr.heap.size := (Array.getElem?_eq_some_iff.1 hit).1
    by_cases hp : pos < s.size
    · have hnx : ∀ ty, (Instr.next (.pointer (some ⟨w.heap.size + 1, 0, none⟩)) true ty).run Tryd.prog wr = _ := fun ty => Lib.run_next_any_at wr (w.heap.size + 1) s pos ty hit hp
      have hwd := (dec_pos s pos).1
      have hd1 := dec_max s pos
      have hI2 := hI.iterAt hit (pos + (Utf8.decode s pos).2)
      have hit2 := Lib.iterAt_heap wr (w.heap.size + 1) s pos (pos + (Utf8.decode s pos).2) hit
      have hbw2 := Lib.below_iterAt hbw (k := w.heap.size + 1) (by omega) s (pos + (Utf8.decode s pos).2)
      have hsz2 : w.heap.size ≤ (wr.iterAt (w.heap.size + 1) s (pos + (Utf8.decode s pos).2)).heap.size := by rw [Lib.iterAt_size]; omega
      go_wp2_with (go_at_call 33; refine (writeRune_any w.heap.size w.heap.size _ _ (by omega) (by omega) _ hI2 (by rw [Lib.byteCells_length]; omega) hsz2).mono ?_)
      rintro e W1 ⟨rfl, h1, b1, k1⟩
      have hit3 := Lib.hid (k1.iter hit2 (by omega))
      go_wp2
      go_roundw
      case rel =>
        have h4 := enc_le ((Utf8.decode s pos).1 : Int)
        refine ⟨pos + (Utf8.decode s pos).2, acc ++ Lib.encodeRune (Utf8.decode s pos).1, ?_, hit3.out, hbw2.trans b1, ?_, by rw [List.length_append]; omega⟩
        · rw [Lib.byteCells_append, Lib.byteCells_encodeRune]; exact Or.inr h1
        · rw [← HE.out, List.append_assoc, ← repair_next hp]
      case measure =>
        simp only [World.iterPos, hit3.out, hit]
        omega
    · have hnx : ∀ ty, (Instr.next (.pointer (some ⟨w.heap.size + 1, 0, none⟩)) true ty).run Tryd.prog wr = _ := fun ty => Lib.run_next_end_at wr (w.heap.size + 1) s pos ty hit hp
      go_wp2_with (go_at_call 34; refine (Tryd.Builder_String_any_k w.heap.size w.heap.size acc _ hI (by omega)).mono ?_)
      rintro e W1 ⟨rfl, _, b1, _⟩
      go_wp2
      go_ret
      have e := HE.out
      rw [repair_end hp, List.append_nil] at e
      subst e
      exact ⟨rfl, hbw.trans b1⟩

theorem piece_take (s : ByteArray) (pos : Nat) (hp : pos < s.size) (h : strayB s pos = false) : List.take (Utf8.decode s pos).2 (List.drop pos s.data.toList) = Lib.encodeRune (Utf8.decode s pos).1 := by
  have e := enc_piece s pos hp h
  rw [Lib.extract_data, Nat.add_sub_cancel_left] at e
  exact e

set_option maxHeartbeats 2000000 in
set_option maxRecDepth 100000 in
theorem refRepair_any (s : ByteArray) (w : World) (hs : s.size ≤ 35184372088832) :
    Calls Tryd.prog 15 #[.string s] w fun e w' => e = .returned (.string ⟨(repairFrom s 0).toArray⟩) ∧ Below w.heap.size w w' := by
  have HM : Hid (s.size ≤ maxLen) := by unfold maxLen; exact (by omega : s.size ≤ 2 ^ 63 - 1)
  go_enter Tryd.func15, Tryd.ntmps15
  go_wp2
  go_loopw [3, 4] (fun v i wr => ∃ (pos : Nat) (acc : List UInt8), i = .int .i64 pos ∧ pos ≤ s.size ∧ Row w.heap.size v acc wr ∧ Below w.heap.size w wr ∧ acc ++ repairFrom s pos = repairFrom s 0 ∧ acc.length ≤ 4 * pos) (fun _ i _ => s.size - (intOf i).toNat)
  case atStart => exact ⟨0, [], rfl, by omega, Row.empty w, (Below.refl _ w).alloc (Nat.le_refl _) _, rfl, by simp⟩
  case round =>
    obtain ⟨pos, acc, rfl, hpl, hrow, hbw, hE, hal⟩ := hrel
    have HE := Lib.hid hE
    have HR := Lib.hid hrow
    clear hE hrow
    have hsz := hbw.size
    by_cases hp : pos < s.size
    · have hwd := dec_pos s pos
      have hws := dec_le_size s pos hp
      have hmx := dec_max s pos
      by_cases hst : strayB s pos = true
      · have w1 : (Utf8.decode s pos).2 = 1 := (of_decide_eq_true hst).2
        have HW := Lib.hid w1
        clear w1
        go_wp2_with (first | (go_at_call 32; refine (step_stray s pos _ hp HM.out hst).mono ?_; rintro e w' ⟨rfl, rfl⟩) | (at_builtin; go_loud (refine wp_append_new (w := wr) rfl _ _ rfl w.heap.size u3 acc rfl HR.out [239, 191, 189] _ 3 rfl rfl rfl ?c1 ?c2 ?_)))
        case c1 => omega
        case c2 => omega
        intro v' w' hrow' hb'
        go_wp2
        go_roundw
        case rel => exact ⟨pos + 1, acc ++ [239, 191, 189], by go_num, by omega, hrow', hbw.trans hb', by rw [← HE.out, List.append_assoc, repair_next hp, HW.out, enc_stray s pos hst], by rw [List.length_append]; simp; omega⟩
        case measure => simp [intOf]; omega
      · have hst' : strayB s pos = false := by simpa using hst
        clear hst
        have hxs : (s.extract pos (pos + (Utf8.decode s pos).2)).size ≤ 4 := by simp; omega
        go_wp2_with (first | (go_at_call 32; refine (step_rune s pos _ hp HM.out hst').mono ?_; rintro e w' ⟨rfl, rfl⟩) | (at_builtin; refine wp_append_string rfl _ _ rfl w.heap.size _ acc rfl HR.out (s.extract pos (pos + (Utf8.decode s pos).2)) rfl ?c3 ?c4 ?_))
        case c3 => omega
        case c4 => omega
        intro v' w' hrow' hb'
        rw [piece_take s pos hp hst'] at hrow'
        go_wp2
        go_roundw
        case rel =>
          have h4 := enc_le ((Utf8.decode s pos).1 : Int)
          exact ⟨pos + (Utf8.decode s pos).2, acc ++ Lib.encodeRune (Utf8.decode s pos).1, by go_num, by omega, hrow', hbw.trans hb', by rw [← HE.out, List.append_assoc, ← repair_next hp], by rw [List.length_append]; omega⟩
        case measure => simp [intOf]; omega
    · have hcv := row_string HR.out
      go_wp2
      go_ret
      have e := HE.out
      rw [repair_end hp, List.append_nil] at e
      subst e
      exact ⟨rfl, hbw⟩
end Go.Proofs.YtgakophdgjepmaaDoor
