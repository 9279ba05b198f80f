/- Trim of both sides tells trimmed. -/
import Derived.Test.YtgakophdgjepmaaDoorTrimM
import Derived.Test.YtgakophdgjepmaaDoorRefName
namespace Go.Proofs.YtgakophdgjepmaaDoor
open Go.RowKit

/-- The width, as the program reckons it. -/
theorem runeLen_dec (s : ByteArray) (i : Nat) (h : strayB s i = false) : Lib.runeLen (Utf8.decode s i).1 = (Utf8.decode s i).2 := by
  have := byteN_lt s i
  unfold Lib.runeLen
  rcases dec_cases s i with e | ⟨hb, e⟩ | ⟨r, e, h0, h1, _⟩ | ⟨r, e, h0, h1, hn, _⟩ | ⟨r, e, h0, h1, _⟩
  · simp [strayB, e] at h
  all_goals
    rw [e]
    simp only
    repeat' split
    all_goals omega

theorem sizeAt_any (s : ByteArray) (i : Nat) (w : World) (hi : i < s.size) (hs : s.size ≤ maxLen) :
    Calls Tryd.prog 40 #[.string s, .int .i64 i, .int .i32 (Utf8.decode s i).1] w fun e w' => e = .returned (.int .i64 (Utf8.decode s i).2) ∧ w = w' := by
  by_cases h : strayB s i = true
  · have H := Lib.hid (of_decide_eq_true h).2
    go_enter Tryd.func40, Tryd.ntmps40
    go_wp2_with (go_at_call 31; refine (stray_any s i _ hi hs).mono ?_; rintro e w' ⟨rfl, rfl⟩)
    go_ret
    exact ⟨ret_int (by rw [H.out]; rfl), rfl⟩
  · have h' : strayB s i = false := by simpa using h
    have H := Lib.hid (runeLen_dec s i h')
    clear h
    go_enter Tryd.func40, Tryd.ntmps40
    go_wp2_with (first | (go_at_call 31; refine (stray_any s i _ hi hs).mono ?_; rintro e w' ⟨rfl, rfl⟩) | (go_at_call 55; refine (Tryd.utf8_RuneLen _ _).mono ?_; rintro e w' ⟨rfl, rfl⟩))
    go_ret
    exact ⟨ret_int H.out, rfl⟩

theorem clone_any (s : ByteArray) (w : World) (hs : s.size ≤ 281474976710656) :
    Calls Tryd.prog 41 #[.string s] w fun e w' => e = .returned (.string s) ∧ Below w.heap.size w w' := by
  go_enter Tryd.func41, Tryd.ntmps41
  go_wp2_with (go_at_call 56; refine (Tryd.stringslite_Clone s _ hs).mono ?_)
  rintro e w' ⟨rfl, hb⟩
  go_wp2
  go_ret
  exact ⟨rfl, hb⟩

theorem ret_str {a b : ByteArray} (h : a = b) : Ending.returned (.string a) = .returned (.string b) := by rw [h]
theorem extract_none (s : ByteArray) (a : Nat) : (⟨#[]⟩ : ByteArray) = s.extract a a := by
  apply ByteArray.ext
  apply Array.ext'
  rw [Lib.extract_data]
  simp
/-- Where the program's first place stands behind a beginning. -/
def begAt (s : ByteArray) (pos b : Nat) : Prop := (b = s.size ∧ firstFrom s 0 = firstFrom s pos) ∨ (b < pos ∧ b = firstFrom s 0)

set_option maxHeartbeats 2000000 in
set_option maxRecDepth 100000 in
theorem trim_any (s : ByteArray) (w : World) (hs : s.size ≤ 140737488355328) :
    Calls Tryd.prog 23 #[.string s] w fun e w' => e = .returned (.string (trimmed s)) ∧ Below w.heap.size w w' := by
  have HM : Hid (s.size ≤ maxLen) := by unfold maxLen; exact (by omega : s.size ≤ 2 ^ 63 - 1)
  go_enter Tryd.func23, Tryd.ntmps23
  go_wp2
  go_loopw [3, 4] (fun b e wr => ∃ (pos bn en : Nat), b = .int .i64 bn ∧ e = .int .i64 en ∧ pos ≤ s.size ∧ bn ≤ s.size ∧ en ≤ pos ∧ (begAt s pos bn) ∧ (en = 0 ↔ bn = s.size) ∧ wr.heap[w.heap.size]? = some (.stringIter s pos) ∧ Below w.heap.size w wr ∧ lastFrom s pos en = lastFrom s 0 0) (fun _ _ wr => s.size - wr.iterPos w.heap.size)
  case atStart => exact ⟨0, s.size, 0, rfl, rfl, by omega, by omega, by omega, .inl ⟨rfl, rfl⟩, by simp, World.iter_heap w s 0, (Below.refl _ w).alloc (Nat.le_refl _) _, rfl⟩
  case round =>
    obtain ⟨pos, bn, en, rfl, rfl, hpl, hbl, hel, hB, hZ, hit, hbw, hE⟩ := hrel
    have HE := Lib.hid hE
    have HB := Lib.hid hB
    have HZ := Lib.hid hZ
    clear hE hB hZ
    have hsz : w.heap.size < wr.heap.size := (Array.getElem?_eq_some_iff.1 hit).1
    by_cases hp : pos < s.size
    · have hnx : ∀ ty, (Instr.next (.pointer (some ⟨w.heap.size, 0, none⟩)) true ty).run Tryd.prog wr = _ := fun ty => Lib.run_next_any_at wr w.heap.size s pos ty hit hp
      have hwd := dec_pos s pos
      have hws := dec_le_size s pos hp
      have hit2 := Lib.iterAt_heap wr w.heap.size s pos (pos + (Utf8.decode s pos).2) hit
      have hbw2 := Lib.below_iterAt hbw (k := w.heap.size) (by omega) s (pos + (Utf8.decode s pos).2)
      by_cases hw : spB (Utf8.decode s pos).1 = true
      · go_wp2_with (go_at_call 17; refine (space_any _ _).mono ?_; rintro e w' ⟨rfl, rfl⟩)
        go_roundw
        case rel => exact ⟨pos + (Utf8.decode s pos).2, bn, en, rfl, rfl, hws, hbl, by omega, by
          rcases HB.out with ⟨a, b⟩ | ⟨a, b⟩
          · exact .inl ⟨a, by rw [b, first_ws hp hw]⟩
          · exact .inr ⟨by omega, b⟩, HZ.out, hit2, hbw2, by rw [← HE.out, last_ws hp hw]⟩
        case measure =>
          simp only [World.iterPos, hit2, hit]
          omega
      · have hw' : spB (Utf8.decode s pos).1 = false := by simpa using hw
        clear hw
        go_wp2_with (first | (go_at_call 17; refine (space_any _ _).mono ?_; rintro e w' ⟨rfl, rfl⟩) | (go_at_call 40; refine (sizeAt_any s pos _ hp HM.out).mono ?_; rintro e w' ⟨rfl, rfl⟩))
        go_roundw
        case rel =>
          refine ⟨pos + (Utf8.decode s pos).2, min bn pos, pos + (Utf8.decode s pos).2, ?_, by go_num, hws, by omega, by omega, ?_, by omega, hit2, hbw2, by rw [← HE.out]; exact (last_no hp hw').symm⟩
          · show Value.int _ _ = _
            congr 1
            omega
          · rcases HB.out with ⟨a, b⟩ | ⟨a, b⟩
            · exact .inr ⟨by omega, by rw [b, first_no hp hw']; omega⟩
            · exact .inr ⟨by omega, by omega⟩
        case measure =>
          simp only [World.iterPos, hit2, hit]
          omega
    · have hnx : ∀ ty, (Instr.next (.pointer (some ⟨w.heap.size, 0, none⟩)) true ty).run Tryd.prog wr = _ := fun ty => Lib.run_next_end_at wr w.heap.size s pos ty hit hp
      have hz := last_zero s
      have hle := trimE_le s
      have hL : lastFrom s 0 0 = en := by rw [← HE.out, last_end hp]
      have HL := Lib.hid hL
      have HZZ := Lib.hid hz
      clear hz hL
      by_cases h0 : en = 0
      · subst h0
        go_wp2
        go_ret
        refine ⟨ret_str ?_, hbw⟩
        rcases HZZ.out with ⟨_, a⟩ | ⟨a, _⟩
        · unfold trimmed; rw [a]; exact extract_none s _
        · rw [HL.out] at a; omega
      · have h0' : ((en : Int) == 0) = false := by simp; omega
        have hE' : en = trimE s ∧ bn = trimB s := by
          have hl := HL.out
          rcases HZZ.out with ⟨a, _⟩ | ⟨_, a, _, _, c⟩
          · omega
          · refine ⟨by omega, ?_⟩
            rcases HB.out with ⟨d, f⟩ | ⟨_, d⟩
            · exact absurd (HZ.out.2 d) h0
            · exact d
        obtain ⟨rfl, rfl⟩ := hE'
        clear h0
        go_wp2_with (go_at_call 41; refine (clone_any (s.extract (trimB s) (trimE s)) _ (by simp; omega)).mono ?_)
        rintro e W1 ⟨rfl, b1⟩
        go_wp2
        go_ret
        exact ⟨rfl, hbw.trans (b1.mono (by omega))⟩
end Go.Proofs.YtgakophdgjepmaaDoor
