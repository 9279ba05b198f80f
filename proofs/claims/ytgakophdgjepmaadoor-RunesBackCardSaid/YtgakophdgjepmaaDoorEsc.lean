/- Escape of the program tells escFrom. -/
import Derived.Test.YtgakophdgjepmaaDoorHex
namespace Go.Proofs.YtgakophdgjepmaaDoor
open Go.RowKit

/-- How one rune is written, by its number. -/
def escRune (r : Nat) : List UInt8 :=
  if r = 92 then [92, 92] else if r = 10 then [92, 110] else if r = 13 then [92, 114] else if r = 9 then [92, 116]
  else if 32 ≤ r ∧ r ≤ 126 then [r.toUInt8] else if r ≤ 65535 then [92, 117] ++ hexTop r 4 else [92, 85] ++ hexTop r 6
def escPiece (s : ByteArray) (pos : Nat) : List UInt8 := if strayB s pos then [92, 120] ++ hexTop (byteN s pos) 2 else escRune (Utf8.decode s pos).1
def escFrom (s : ByteArray) (pos : Nat) : List UInt8 := if pos < s.size then escPiece s pos ++ escFrom s (pos + (Utf8.decode s pos).2) else []
termination_by s.size - pos
decreasing_by have := dec_pos s pos; omega
theorem esc_next {s : ByteArray} {pos : Nat} (h : pos < s.size) : escFrom s pos = escPiece s pos ++ escFrom s (pos + (Utf8.decode s pos).2) := by rw [escFrom, if_pos h]
theorem esc_end {s : ByteArray} {pos : Nat} (h : ¬ pos < s.size) : escFrom s pos = [] := by rw [escFrom, if_neg h]
theorem escRune_le (r : Nat) : 1 ≤ (escRune r).length ∧ (escRune r).length ≤ 8 := by
  unfold escRune
  repeat' split
  all_goals simp [hexTop_length]
theorem escPiece_le (s : ByteArray) (pos : Nat) : (escPiece s pos).length ≤ 8 := by
  unfold escPiece
  split
  · simp [hexTop_length]
  · exact (escRune_le _).2
theorem esc_stray {s : ByteArray} {pos : Nat} (h : strayB s pos = true) : escPiece s pos = [92, 120] ++ hexTop (byteN s pos) 2 := if_pos h
theorem esc_rune {s : ByteArray} {pos : Nat} (h : strayB s pos = false) : escPiece s pos = escRune (Utf8.decode s pos).1 := if_neg (by simp [h])
theorem esc_hex4 {r : Nat} (h1 : ¬ r = 92) (h2 : ¬ r = 10) (h3 : ¬ r = 13) (h4 : ¬ r = 9) (h5 : ¬ (32 ≤ r ∧ r ≤ 126)) (h6 : r ≤ 65535) : escRune r = [92, 117] ++ hexTop r 4 := by
  unfold escRune; rw [if_neg h1, if_neg h2, if_neg h3, if_neg h4, if_neg h5, if_pos h6]
theorem esc_hex6 {r : Nat} (h6 : 65535 < r) : escRune r = [92, 85] ++ hexTop r 6 := by
  unfold escRune; rw [if_neg (by omega), if_neg (by omega), if_neg (by omega), if_neg (by omega), if_neg (by omega), if_neg (by omega)]
theorem esc_plain {r : Nat} (h1 : ¬ r = 92) (h5 : 32 ≤ r ∧ r ≤ 126) : escRune r = [r.toUInt8] := by
  unfold escRune; rw [if_neg h1, if_neg (by omega), if_neg (by omega), if_neg (by omega), if_pos h5]
theorem cells_hex (c : Int) (b : UInt8) (hb : (b.toNat : Int) = c) (l : List UInt8) (bs : List Value) : bs ++ [Value.int .u8 92, Value.int .u8 c] ++ Lib.byteCells l = bs ++ Lib.byteCells ([92, b] ++ l) := by
  rw [List.append_assoc, Lib.byteCells_append, ← hb]
  rfl
theorem cells_rune {r : Nat} (h : r ≤ 126) : Lib.runeCells (r : Int) = Lib.byteCells [r.toUInt8] := by
  rw [← Lib.byteCells_encodeRune]
  unfold Lib.encodeRune
  rw [Lib.encodeRuneZ_one (by omega) (by omega)]
  rfl

/-- What is carried round the loop. -/
def EscInv (s : ByteArray) (w : World) (pos : Nat) (acc : List UInt8) (wr : World) : Prop :=
  Lib.IsBuilderF 40 5 w.heap.size w.heap.size (Lib.byteCells acc) wr ∧ wr.heap[w.heap.size + 1]? = some (.stringIter s pos) ∧ Below w.heap.size w wr ∧ acc ++ escFrom s pos = escFrom s 0 ∧ acc.length ≤ 8 * pos
theorem EscInv.next {s : ByteArray} {w wr W1 : World} {pos : Nat} {acc : List UInt8} (hp : pos < s.size) (piece : List UInt8) (he : escPiece s pos = piece)
    (hit2 : (wr.iterAt (w.heap.size + 1) s (pos + (Utf8.decode s pos).2)).heap[w.heap.size + 1]? = some (.stringIter s (pos + (Utf8.decode s pos).2)))
    (hbw2 : Below w.heap.size w (wr.iterAt (w.heap.size + 1) s (pos + (Utf8.decode s pos).2))) (hE : acc ++ escFrom s pos = escFrom s 0) (hal : acc.length ≤ 8 * pos)
    (h1 : Lib.BuilderAtF 40 5 w.heap.size w.heap.size (.pointer (some ⟨w.heap.size, 0, none⟩)) (Lib.byteCells acc ++ Lib.byteCells piece) W1) (b1 : Below w.heap.size (wr.iterAt (w.heap.size + 1) s (pos + (Utf8.decode s pos).2)) W1)
    (k1 : Lib.OthersKept 5 (some w.heap.size) (wr.iterAt (w.heap.size + 1) s (pos + (Utf8.decode s pos).2)) W1) : EscInv s w (pos + (Utf8.decode s pos).2) (acc ++ piece) W1 := by
  have h8 := escPiece_le s pos
  have hd := (dec_pos s pos).1
  rw [he] at h8
  refine ⟨?_, k1.iter hit2 (by omega), hbw2.trans b1, ?_, by rw [List.length_append]; omega⟩
  · rw [Lib.byteCells_append]; exact Or.inr h1
  · rw [← hE, esc_next hp, he, List.append_assoc]

set_option maxHeartbeats 4000000 in
set_option maxRecDepth 100000 in
theorem escape_any (s : ByteArray) (w : World) (hs : s.size ≤ 1048576) :
    Calls Tryd.prog 25 #[.string s] w fun e w' => e = .returned (.string ⟨(escFrom s 0).toArray⟩) ∧ Below w.heap.size w w' := by
  have HM : Hid (s.size ≤ maxLen) := by unfold maxLen; exact (by omega : s.size ≤ 2 ^ 63 - 1)
  go_enter Tryd.func25, Tryd.ntmps25
  go_wp2
  go_loopw [] (fun wr => ∃ (pos : Nat) (acc : List UInt8), EscInv s w pos acc wr) (fun wr => s.size - wr.iterPos (w.heap.size + 1))
  case atStart =>
    refine ⟨0, [], (Lib.IsBuilderF.of (Lib.fresh_isBuilder _ _ w)).alloc _, ?_, ((Below.refl _ w).alloc (Nat.le_refl _) _).alloc (by simp) _, rfl, by simp⟩
    have := World.iter_heap (w.alloc (.cells #[.pointer none, .slice none 0 0] 40)) s 0
    simpa using this
  case round =>
    obtain ⟨pos, acc, hI, hit, hbw, hE, hal⟩ := hrel
    have HE := Lib.hid hE
    clear hE
    have hsz : w.heap.size + 1 < wr.heap.size := (Array.getElem?_eq_some_iff.1 hit).1
    by_cases hp : pos < s.size
    · have hnx : ∀ ty, (Instr.next (.pointer (some ⟨w.heap.size + 1, 0, none⟩)) true ty).run Tryd.prog wr = _ := fun ty => Lib.run_next_any_at wr (w.heap.size + 1) s pos ty hit hp
      have hwd := (dec_pos s pos).1
      have hd1 := dec_max s pos
      have hI2 := hI.iterAt hit (pos + (Utf8.decode s pos).2)
      have hit2 := Lib.iterAt_heap wr (w.heap.size + 1) s pos (pos + (Utf8.decode s pos).2) hit
      have hbw2 := Lib.below_iterAt hbw (k := w.heap.size + 1) (by omega) s (pos + (Utf8.decode s pos).2)
      have hsz2 : w.heap.size ≤ (wr.iterAt (w.heap.size + 1) s (pos + (Utf8.decode s pos).2)).heap.size := by rw [Lib.iterAt_size]; omega
      have hbl : (Lib.byteCells acc).length ≤ 8388608 := by rw [Lib.byteCells_length]; omega
      by_cases hst : strayB s pos = true
      · have HB : Hid (s[pos].toNat = byteN s pos) := byteN_at s pos hp
        have hb256 : s[pos].toNat < 256 := s[pos].toNat_lt
        go_wp2_with (first | (go_at_call 31; refine (stray_any s pos _ hp HM.out).mono ?_; rintro e w' ⟨rfl, rfl⟩) | (go_at_call 43; refine (writeHex_any w.heap.size w.heap.size _ 120 s[pos].toNat 2 _ (by omega) (by omega) hI2 (by omega) hsz2).mono ?_))
        rintro e W1 ⟨rfl, h1, b1, k1⟩
        rw [cells_hex 120 120 rfl] at h1
        go_wp2
        go_roundw
        case rel => exact ⟨_, _, EscInv.next hp _ (by rw [esc_stray hst, ← HB.out]) hit2 hbw2 HE.out hal h1 b1 k1⟩
        case measure =>
          simp only [World.iterPos, k1.iter hit2 (by omega), hit]
          omega
      have hst' : strayB s pos = false := by simpa using hst
      clear hst
      have HP := Lib.hid (esc_rune hst')
      by_cases ea : (Utf8.decode s pos).1 = 92
      · have qa : (((Utf8.decode s pos).1 : Int) == 92) = true := by simp; omega
        have Ea := Lib.hid ea
        clear ea
        go_wp2_with (first | (go_at_call 31; refine (stray_any s pos _ hp HM.out).mono ?_; rintro e w' ⟨rfl, rfl⟩) | (go_at_call 44; refine (writeString_any w.heap.size w.heap.size _ ⟨#[92, 92]⟩ _ hI2 (by show _ + 2 ≤ _; omega) hsz2).mono ?_))
        rintro e W1 ⟨rfl, h1, b1, k1⟩
        go_wp2
        go_roundw
        case rel => exact ⟨_, _, EscInv.next hp [92, 92] (by rw [HP.out, Ea.out]; rfl) hit2 hbw2 HE.out hal h1 b1 k1⟩
        case measure =>
          simp only [World.iterPos, k1.iter hit2 (by omega), hit]
          omega
      have qa : (((Utf8.decode s pos).1 : Int) == 92) = false := by simp; omega
      have Ea := Lib.hid ea
      clear ea
      by_cases eb : (Utf8.decode s pos).1 = 10
      · have qb : (((Utf8.decode s pos).1 : Int) == 10) = true := by simp; omega
        have Eb := Lib.hid eb
        clear eb
        go_wp2_with (first | (go_at_call 31; refine (stray_any s pos _ hp HM.out).mono ?_; rintro e w' ⟨rfl, rfl⟩) | (go_at_call 44; refine (writeString_any w.heap.size w.heap.size _ ⟨#[92, 110]⟩ _ hI2 (by show _ + 2 ≤ _; omega) hsz2).mono ?_))
        rintro e W1 ⟨rfl, h1, b1, k1⟩
        go_wp2
        go_roundw
        case rel => exact ⟨_, _, EscInv.next hp [92, 110] (by rw [HP.out, Eb.out]; rfl) hit2 hbw2 HE.out hal h1 b1 k1⟩
        case measure =>
          simp only [World.iterPos, k1.iter hit2 (by omega), hit]
          omega
      have qb : (((Utf8.decode s pos).1 : Int) == 10) = false := by simp; omega
      have Eb := Lib.hid eb
      clear eb
      by_cases ec : (Utf8.decode s pos).1 = 13
      · have qc : (((Utf8.decode s pos).1 : Int) == 13) = true := by simp; omega
        have Ec := Lib.hid ec
        clear ec
        go_wp2_with (first | (go_at_call 31; refine (stray_any s pos _ hp HM.out).mono ?_; rintro e w' ⟨rfl, rfl⟩) | (go_at_call 44; refine (writeString_any w.heap.size w.heap.size _ ⟨#[92, 114]⟩ _ hI2 (by show _ + 2 ≤ _; omega) hsz2).mono ?_))
        rintro e W1 ⟨rfl, h1, b1, k1⟩
        go_wp2
        go_roundw
        case rel => exact ⟨_, _, EscInv.next hp [92, 114] (by rw [HP.out, Ec.out]; rfl) hit2 hbw2 HE.out hal h1 b1 k1⟩
        case measure =>
          simp only [World.iterPos, k1.iter hit2 (by omega), hit]
          omega
      have qc : (((Utf8.decode s pos).1 : Int) == 13) = false := by simp; omega
      have Ec := Lib.hid ec
      clear ec
      by_cases ed : (Utf8.decode s pos).1 = 9
      · have qd : (((Utf8.decode s pos).1 : Int) == 9) = true := by simp; omega
        have Ed := Lib.hid ed
        clear ed
        go_wp2_with (first | (go_at_call 31; refine (stray_any s pos _ hp HM.out).mono ?_; rintro e w' ⟨rfl, rfl⟩) | (go_at_call 44; refine (writeString_any w.heap.size w.heap.size _ ⟨#[92, 116]⟩ _ hI2 (by show _ + 2 ≤ _; omega) hsz2).mono ?_))
        rintro e W1 ⟨rfl, h1, b1, k1⟩
        go_wp2
        go_roundw
        case rel => exact ⟨_, _, EscInv.next hp [92, 116] (by rw [HP.out, Ed.out]; rfl) hit2 hbw2 HE.out hal h1 b1 k1⟩
        case measure =>
          simp only [World.iterPos, k1.iter hit2 (by omega), hit]
          omega
      have qd : (((Utf8.decode s pos).1 : Int) == 9) = false := by simp; omega
      have Ed := Lib.hid ed
      clear ed
      by_cases e1 : 32 ≤ (Utf8.decode s pos).1
      · by_cases e2 : (Utf8.decode s pos).1 ≤ 126
        · go_wp2_with (first | (go_at_call 31; refine (stray_any s pos _ hp HM.out).mono ?_; rintro e w' ⟨rfl, rfl⟩) | (go_at_call 33; refine (writeRune_any w.heap.size w.heap.size _ _ (by omega) (by omega) _ hI2 (by omega) hsz2).mono ?_))
          rintro e W1 ⟨rfl, h1, b1, k1⟩
          rw [cells_rune e2] at h1
          go_wp2
          go_roundw
          case rel => exact ⟨_, _, EscInv.next hp _ (by rw [HP.out, esc_plain Ea.out ⟨e1, e2⟩]) hit2 hbw2 HE.out hal h1 b1 k1⟩
          case measure =>
            simp only [World.iterPos, k1.iter hit2 (by omega), hit]
            omega
        · by_cases e3 : (Utf8.decode s pos).1 ≤ 65535
          · go_wp2_with (first | (go_at_call 31; refine (stray_any s pos _ hp HM.out).mono ?_; rintro e w' ⟨rfl, rfl⟩) | (go_at_call 43; refine (writeHex_any w.heap.size w.heap.size _ 117 (Utf8.decode s pos).1 4 _ (by omega) (by omega) hI2 (by omega) hsz2).mono ?_))
            rintro e W1 ⟨rfl, h1, b1, k1⟩
            rw [cells_hex 117 117 rfl] at h1
            go_wp2
            go_roundw
            case rel => exact ⟨_, _, EscInv.next hp _ (by rw [HP.out, esc_hex4 Ea.out Eb.out Ec.out Ed.out (by omega) e3]) hit2 hbw2 HE.out hal h1 b1 k1⟩
            case measure =>
              simp only [World.iterPos, k1.iter hit2 (by omega), hit]
              omega
          · go_wp2_with (first | (go_at_call 31; refine (stray_any s pos _ hp HM.out).mono ?_; rintro e w' ⟨rfl, rfl⟩) | (go_at_call 43; refine (writeHex_any w.heap.size w.heap.size _ 85 (Utf8.decode s pos).1 6 _ (by omega) (by omega) hI2 (by omega) hsz2).mono ?_))
            rintro e W1 ⟨rfl, h1, b1, k1⟩
            rw [cells_hex 85 85 rfl] at h1
            go_wp2
            go_roundw
            case rel => exact ⟨_, _, EscInv.next hp _ (by rw [HP.out, esc_hex6 (by omega)]) hit2 hbw2 HE.out hal h1 b1 k1⟩
            case measure =>
              simp only [World.iterPos, k1.iter hit2 (by omega), hit]
              omega
      · have n1 : (Utf8.decode s pos).1 < 32 := by omega
        have n2 : (Utf8.decode s pos).1 ≤ 65535 := by omega
        have q1 : decide ((32 : Int) ≤ ((Utf8.decode s pos).1 : Int)) = false := decide_eq_false (by omega)
        clear e1
        go_wp2_with (first | (go_at_call 31; refine (stray_any s pos _ hp HM.out).mono ?_; rintro e w' ⟨rfl, rfl⟩) | (go_at_call 43; refine (writeHex_any w.heap.size w.heap.size _ 117 (Utf8.decode s pos).1 4 _ (by omega) (by omega) hI2 (by omega) hsz2).mono ?_))
        rintro e W1 ⟨rfl, h1, b1, k1⟩
        rw [cells_hex 117 117 rfl] at h1
        go_wp2
        go_roundw
        case rel => exact ⟨_, _, EscInv.next hp _ (by rw [HP.out, esc_hex4 Ea.out Eb.out Ec.out Ed.out (by omega) (by omega)]) hit2 hbw2 HE.out hal h1 b1 k1⟩
        case measure =>
          simp only [World.iterPos, k1.iter hit2 (by omega), hit]
          omega
    · have hnx : ∀ ty, (Instr.next (.pointer (some ⟨w.heap.size + 1, 0, none⟩)) true ty).run Tryd.prog wr = _ := fun ty => Lib.run_next_end_at wr (w.heap.size + 1) s pos ty hit hp
      go_wp2_with (go_at_call 34; refine (Tryd.Builder_String_any_k w.heap.size w.heap.size acc _ hI (by omega)).mono ?_)
      rintro e W1 ⟨rfl, _, b1, _⟩
      go_wp2
      go_ret
      have e := HE.out
      rw [esc_end hp, List.append_nil] at e
      subst e
      exact ⟨rfl, hbw.trans b1⟩
end Go.Proofs.YtgakophdgjepmaaDoor
