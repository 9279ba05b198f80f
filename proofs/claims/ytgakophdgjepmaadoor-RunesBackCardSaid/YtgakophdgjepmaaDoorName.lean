/- Names of arguments: both sides' Ident tell identZ. -/
import Derived.Test.YtgakophdgjepmaaDoorNum
import Derived.Test.YtgakophdgjepmaaDoorSyn
import Derived.Lib.OthersKept
namespace Go.Proofs.YtgakophdgjepmaaDoor
open Go.RowKit

/-- The rune at a place may not stand in a name. -/
def badB (s : ByteArray) (pos : Nat) : Bool := strayB s pos || (spB (Utf8.decode s pos).1 || synB (Utf8.decode s pos).1)
def okFrom (s : ByteArray) (pos : Nat) : Bool :=
  if pos < s.size then (if badB s pos then false else okFrom s (pos + (Utf8.decode s pos).2)) else true
termination_by s.size - pos
decreasing_by have := dec_pos s pos; omega
theorem ok_bad {s : ByteArray} {pos : Nat} (h : pos < s.size) (hb : badB s pos = true) : okFrom s pos = false := by rw [okFrom, if_pos h, if_pos hb]
theorem ok_next {s : ByteArray} {pos : Nat} (h : pos < s.size) (hb : badB s pos = false) : okFrom s pos = okFrom s (pos + (Utf8.decode s pos).2) := by rw [okFrom, if_pos h, if_neg (by simp [hb])]
theorem ok_end {s : ByteArray} {pos : Nat} (h : ¬ pos < s.size) : okFrom s pos = true := by rw [okFrom, if_neg h]

def nameB (s : ByteArray) : Bool := decide (s.size ≠ 0 ∧ s.size ≤ 64) && (!digB (byteN s 0) && okFrom s 0)
def identZ (s : ByteArray) : Int := if numB s then 2 else if nameB s then 1 else 0

set_option maxRecDepth 100000 in
theorem isName_off (s : ByteArray) (w : World) (h : s.size = 0 ∨ 64 < s.size) :
    Calls Tryd.prog 37 #[.string s] w fun e w' => e = .returned (.bool false) ∧ w = w' := by
  by_cases h0 : s.size = 0
  · have h1 : s.toList = [] := toList_nil.2 h0
    go_enter Tryd.func37, Tryd.ntmps37
    go_wp2
    all_goals (go_ret; exact ⟨rfl, rfl⟩)
  · have h10 : 64 < s.size := by omega
    go_enter Tryd.func37, Tryd.ntmps37
    go_wp2
    all_goals (go_ret; exact ⟨rfl, rfl⟩)
set_option maxRecDepth 100000 in
theorem isName_dig (s : ByteArray) (w : World) (h : 0 < s.size) (h64 : s.size ≤ 64) (hd : digB (s[0].toNat : Int) = true) :
    Calls Tryd.prog 37 #[.string s] w fun e w' => e = .returned (.bool false) ∧ w = w' := by
  have n1 : ¬ s.toList = [] := fun h => by have := toList_nil.1 h; omega
  have n2 : s.toList.isEmpty = false := by simpa using n1
  have n3 : decide ((64 : Int) < (s.size : Int)) = false := decide_eq_false (by omega)
  go_enter Tryd.func37, Tryd.ntmps37
  go_wp2_with (go_at_call 54; refine (isDigit_any _ _).mono ?_; rintro e w' ⟨rfl, rfl⟩)
  all_goals (go_ret; exact ⟨rfl, rfl⟩)

set_option maxHeartbeats 2000000 in
set_option maxRecDepth 100000 in
theorem isName_on (s : ByteArray) (w : World) (h : 0 < s.size) (h64 : s.size ≤ 64) (hd : digB (s[0].toNat : Int) = false) (hT : TabW w) :
    Calls Tryd.prog 37 #[.string s] w fun e w' => e = .returned (.bool (okFrom s 0)) ∧ Below w.heap.size w w' := by
  have n1 : ¬ s.toList = [] := fun h => by have := toList_nil.1 h; omega
  have n2 : s.toList.isEmpty = false := by simpa using n1
  have n3 : decide ((64 : Int) < (s.size : Int)) = false := decide_eq_false (by omega)
  have HT := Lib.hid hT
  have HM : Hid (s.size ≤ maxLen) := by unfold maxLen; exact (by omega : s.size ≤ 2 ^ 63 - 1)
  clear hT
  go_enter Tryd.func37, Tryd.ntmps37
  go_wp2_with (go_at_call 54; refine (isDigit_any _ _).mono ?_; rintro e w' ⟨rfl, rfl⟩)
  go_loopw [] (fun wr => ∃ pos : Nat, wr.heap[w.heap.size]? = some (.stringIter s pos) ∧ Below w.heap.size w wr ∧ okFrom s pos = okFrom s 0) (fun wr => s.size - wr.iterPos w.heap.size)
  case atStart => exact ⟨0, World.iter_heap w s 0, (Below.refl _ w).alloc (Nat.le_refl _) _, rfl⟩
  case round =>
    obtain ⟨pos, hit, hbw, hE⟩ := hrel
    have HE := Lib.hid hE
    clear hE
    have hsz : w.heap.size < wr.heap.size := (Array.getElem?_eq_some_iff.1 hit).1
    by_cases hp : pos < s.size
    · have hnx : ∀ ty, (Instr.next (.pointer (some ⟨w.heap.size, 0, none⟩)) true ty).run Tryd.prog wr = _ := fun ty => Lib.run_next_any_at wr w.heap.size s pos ty hit hp
      have hwd := (dec_pos s pos).1
      have hit2 := Lib.iterAt_heap wr w.heap.size s pos (pos + (Utf8.decode s pos).2) hit
      have hbw2 := Lib.below_iterAt hbw (k := w.heap.size) (by omega) s (pos + (Utf8.decode s pos).2)
      have HT2 := Lib.hid (HT.out.below hbw2 (Nat.le_refl _))
      have hsz2 : w.heap.size < (wr.iterAt w.heap.size s (pos + (Utf8.decode s pos).2)).heap.size := by rw [Lib.iterAt_size]; omega
      by_cases hst : strayB s pos = true
      · go_wp2_with (go_at_call 31; refine (stray_any s pos _ hp HM.out).mono ?_; rintro e w' ⟨rfl, rfl⟩)
        go_ret
        exact ⟨ret_bool (by rw [← HE.out, ok_bad hp (by unfold badB; rw [hst]; rfl)]), hbw2⟩
      · have hst' : strayB s pos = false := by simpa using hst
        clear hst
        by_cases hs2 : spB (Utf8.decode s pos).1 = true
        · go_wp2_with (first | (go_at_call 31; refine (stray_any s pos _ hp HM.out).mono ?_; rintro e w' ⟨rfl, rfl⟩) | (go_at_call 17; refine (space_any _ _).mono ?_; rintro e w' ⟨rfl, rfl⟩))
          go_ret
          exact ⟨ret_bool (by rw [← HE.out, ok_bad hp (by unfold badB; rw [hst', hs2]; rfl)]), hbw2⟩
        · have hs2' : spB (Utf8.decode s pos).1 = false := by simpa using hs2
          clear hs2
          by_cases hs3 : synB (Utf8.decode s pos).1 = true
          · go_wp2_with (first | (go_at_call 31; refine (stray_any s pos _ hp HM.out).mono ?_; rintro e w' ⟨rfl, rfl⟩) | (go_at_call 17; refine (space_any _ _).mono ?_; rintro e w' ⟨rfl, rfl⟩) | (go_at_call 19; refine (syntax_any _ _ HT2.out).mono ?_))
            rintro e W1 ⟨rfl, b1⟩
            go_wp2
            go_ret
            exact ⟨ret_bool (by rw [← HE.out, ok_bad hp (by unfold badB; rw [hst', hs2', hs3]; rfl)]), hbw2.trans (b1.mono (by omega))⟩
          · have hs3' : synB (Utf8.decode s pos).1 = false := by simpa using hs3
            clear hs3
            go_wp2_with (first | (go_at_call 31; refine (stray_any s pos _ hp HM.out).mono ?_; rintro e w' ⟨rfl, rfl⟩) | (go_at_call 17; refine (space_any _ _).mono ?_; rintro e w' ⟨rfl, rfl⟩) | (go_at_call 19; refine (syntax_any _ _ HT2.out).mono ?_))
            rintro e W1 ⟨rfl, b1⟩
            have hit3 := Lib.hid ((b1.block _ hsz2).trans hit2)
            go_wp2
            go_roundw
            case rel => exact ⟨pos + (Utf8.decode s pos).2, hit3.out, hbw2.trans (b1.mono (by omega)), by rw [← HE.out]; exact (ok_next hp (by unfold badB; rw [hst', hs2', hs3']; rfl)).symm⟩
            case measure =>
              simp only [World.iterPos, hit3.out, hit]
              omega
    · have hnx : ∀ ty, (Instr.next (.pointer (some ⟨w.heap.size, 0, none⟩)) true ty).run Tryd.prog wr = _ := fun ty => Lib.run_next_end_at wr w.heap.size s pos ty hit hp
      go_wp2
      go_ret
      exact ⟨ret_bool (by rw [← HE.out, ok_end hp]), hbw⟩

theorem isName_any (s : ByteArray) (w : World) (hT : TabW w) :
    Calls Tryd.prog 37 #[.string s] w fun e w' => e = .returned (.bool (nameB s)) ∧ Below w.heap.size w w' := by
  by_cases h : s.size = 0 ∨ 64 < s.size
  · refine (isName_off s w h).mono ?_
    rintro e w' ⟨rfl, rfl⟩
    exact ⟨ret_bool (by unfold nameB; rw [decide_eq_false (by omega)]; rfl), Below.refl _ _⟩
  have hd : decide (s.size ≠ 0 ∧ s.size ≤ 64) = true := decide_eq_true (by omega)
  have e0 := byteN_at s 0 (by omega)
  by_cases hg : digB (byteN s 0) = true
  · refine (isName_dig s w (by omega) (by omega) (by rw [e0]; exact hg)).mono ?_
    rintro e w' ⟨rfl, rfl⟩
    exact ⟨ret_bool (by unfold nameB; rw [hd, hg]; rfl), Below.refl _ _⟩
  · have hg' : digB (byteN s 0) = false := by simpa using hg
    refine (isName_on s w (by omega) (by omega) (by rw [e0]; exact hg') hT).mono ?_
    rintro e w' ⟨rfl, hb⟩
    exact ⟨ret_bool (by unfold nameB; rw [hd, hg']; rfl), hb⟩

theorem ident_any (s : ByteArray) (w : World) (hT : TabW w) :
    Calls Tryd.prog 21 #[.string s] w fun e w' => e = .returned (.int .i64 (identZ s)) ∧ Below w.heap.size w w' := by
  by_cases hn : numB s = true
  · go_enter Tryd.func21, Tryd.ntmps21
    go_wp2_with (go_at_call 36; refine (isNumber_any _ _).mono ?_; rintro e w' ⟨rfl, rfl⟩)
    go_ret
    exact ⟨ret_int (by unfold identZ; rw [if_pos hn]), Below.refl _ _⟩
  have hn' : numB s = false := by simpa using hn
  clear hn
  by_cases hm : nameB s = true
  · go_enter Tryd.func21, Tryd.ntmps21
    go_wp2_with (first | (go_at_call 36; refine (isNumber_any _ _).mono ?_; rintro e w' ⟨rfl, rfl⟩) | (go_at_call 37; refine (isName_any _ _ hT).mono ?_))
    rintro e W1 ⟨rfl, b1⟩
    go_wp2
    go_ret
    exact ⟨ret_int (by unfold identZ; rw [if_neg (by simp [hn']), if_pos hm]), b1⟩
  have hm' : nameB s = false := by simpa using hm
  clear hm
  go_enter Tryd.func21, Tryd.ntmps21
  go_wp2_with (first | (go_at_call 36; refine (isNumber_any _ _).mono ?_; rintro e w' ⟨rfl, rfl⟩) | (go_at_call 37; refine (isName_any _ _ hT).mono ?_))
  rintro e W1 ⟨rfl, b1⟩
  go_wp2
  go_ret
  exact ⟨ret_int (by unfold identZ; rw [if_neg (by simp [hn']), if_neg (by simp [hm'])]), b1⟩
end Go.Proofs.YtgakophdgjepmaaDoor
