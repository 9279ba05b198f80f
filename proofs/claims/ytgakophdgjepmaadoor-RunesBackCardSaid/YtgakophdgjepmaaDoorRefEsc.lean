/- Escape of the reference tells escFrom; RunesEscapes. -/
import Derived.Test.YtgakophdgjepmaaDoorEsc
import Derived.Test.YtgakophdgjepmaaDoorRefHex
import Derived.Test.YtgakophdgjepmaaDoorRefName
import Derived.Test.YtgakophdgjepmaaDoorAwake
namespace Go.Proofs.YtgakophdgjepmaaDoor
open Go.RowKit

def RefEscInv (s : ByteArray) (w : World) (v : Value) (pos : Nat) (acc : List UInt8) (wr : World) : Prop :=
  pos ≤ s.size ∧ Row w.heap.size v acc wr ∧ Below w.heap.size w wr ∧ acc ++ escFrom s pos = escFrom s 0 ∧ acc.length ≤ 8 * pos
theorem RefEscInv.next {s : ByteArray} {w wr W1 : World} {v' : Value} {pos : Nat} {acc : List UInt8} (hp : pos < s.size) (piece : List UInt8) (he : escPiece s pos = piece)
    (hbw : Below w.heap.size w wr) (hE : acc ++ escFrom s pos = escFrom s 0) (hal : acc.length ≤ 8 * pos) (h1 : Row w.heap.size v' (acc ++ piece) W1) (b1 : Below w.heap.size wr W1) : RefEscInv s w v' (pos + (Utf8.decode s pos).2) (acc ++ piece) W1 := by
  have h8 := escPiece_le s pos
  have hd := (dec_pos s pos).1
  rw [he] at h8
  exact ⟨dec_le_size s pos hp, h1, hbw.trans b1, by rw [← hE, esc_next hp, he, List.append_assoc], by rw [List.length_append]; omega⟩

/-- A row is kept by what lays new blocks alone. -/
theorem Row.later {B : Nat} {v : Value} {l : List UInt8} {w w' : World} (h : Row B v l w) (hb : Below w.heap.size w w') : Row B v l w' := by
  unfold Row at h ⊢
  refine ⟨h.1, ?_⟩
  rcases h.2 with hn | ⟨g, cap, cur, hv, hB, hg, rest⟩
  · exact .inl hn
  · exact .inr ⟨g, cap, cur, hv, hB, (hb.block g (Array.getElem?_eq_some_iff.1 hg).1).trans hg, rest⟩
theorem row_cat {B : Nat} {v : Value} {acc l : List UInt8} {c : UInt8} {w : World} (h : Row B v (acc ++ ((⟨#[92, c]⟩ : ByteArray) ++ ⟨l.toArray⟩).data.toList) w) : Row B v (acc ++ ([92, c] ++ l)) w := by
  rw [show (⟨#[92, c]⟩ : ByteArray) = ⟨[92, c].toArray⟩ from rfl, cat_str] at h
  simpa using h
theorem cells_low {r : Nat} (h : r ≤ 126) : #[Value.int .u8 (r : Int)] = (Lib.byteCells [r.toUInt8]).toArray := cells_of (by simp; omega)

set_option maxHeartbeats 4000000 in
set_option maxRecDepth 100000 in
theorem refEscape_any (s : ByteArray) (w : World) (hs : s.size ≤ 1048576) :
    Calls Tryd.prog 26 #[.string s] w fun e w' => e = .returned (.string ⟨(escFrom s 0).toArray⟩) ∧ Below w.heap.size w w' := by
  have HM : Hid (s.size ≤ maxLen) := by unfold maxLen; exact (by omega : s.size ≤ 2 ^ 63 - 1)
  go_enter Tryd.func26, Tryd.ntmps26
  go_wp2
  go_loopw [3, 4] (fun v i wr => ∃ (pos : Nat) (acc : List UInt8), i = .int .i64 pos ∧ RefEscInv s w v pos acc wr) (fun _ i _ => s.size - (intOf i).toNat)
  case atStart => exact ⟨0, [], rfl, by omega, Row.empty w, (Below.refl _ w).alloc (Nat.le_refl _) _, rfl, by simp⟩
  case round =>
    obtain ⟨pos, acc, rfl, hpl, hrow, hbw, hE, hal⟩ := hrel
    have HE := Lib.hid hE
    have HR := Lib.hid hrow
    clear hE hrow
    have hsz := hbw.size
    by_cases hp : pos < s.size
    · have hwd := dec_pos s pos
      have hws := dec_le_size s pos hp
      have hmx := dec_max s pos
      by_cases hst : strayB s pos = true
      · have HB : Hid (s[pos].toNat = byteN s pos) := byteN_at s pos hp
        have hb256 : s[pos].toNat < 256 := s[pos].toNat_lt
        have H1 := Lib.hid (of_decide_eq_true hst).2
        go_wp2_with (first | (go_at_call 32; refine (step_stray s pos _ hp HM.out hst).mono ?_; rintro e w' ⟨rfl, rfl⟩) | (go_at_call 45; refine (refHex_any s[pos].toNat 2 _ (by omega) (by omega)).mono ?_))
        rintro e W1 ⟨rfl, b1⟩
        have hs1 := b1.size
        have HR1 := Lib.hid (Row.later HR.out b1)
        have hh8 : (hexTop (s[pos].toNat) 2).length ≤ 6 := by rw [hexTop_length]; omega
        have hcat := cat_str [92, 120] (hexTop (s[pos].toNat) 2)
        have HCAT := Lib.hid hcat
        clear hcat
        have hxs : ((⟨#[92, 120]⟩ : ByteArray) ++ ⟨(hexTop (s[pos].toNat) 2).toArray⟩).size ≤ 8 := by rw [show (⟨#[92, 120]⟩ : ByteArray) = ⟨[92, 120].toArray⟩ from rfl, HCAT.out]; show ([92, 120] ++ hexTop (s[pos].toNat) 2).toArray.size ≤ 8; simp [hexTop_length]
        go_wp2_with (at_builtin; refine wp_append_string (w := W1) rfl _ _ rfl w.heap.size _ acc rfl HR1.out (⟨#[92, 120]⟩ ++ ⟨(hexTop (s[pos].toNat) 2).toArray⟩) rfl ?c3 ?c4 ?_)
        case c3 => omega
        case c4 => omega
        intro v' W2 hrow' hb'
        have hrow2 := Lib.hid (row_cat (c := 120) hrow')
        clear hrow'
        go_wp2
        go_roundw
        case rel => exact ⟨_, _, by rw [H1.out]; go_num, RefEscInv.next hp ([92, 120] ++ hexTop (s[pos].toNat) 2) (by rw [esc_stray hst, ← HB.out]) hbw HE.out hal hrow2.out ((b1.mono hsz).trans hb')⟩
        case measure => simp [intOf]; omega
      have hst' : strayB s pos = false := by simpa using hst
      clear hst
      have HP := Lib.hid (esc_rune hst')
      by_cases ea : (Utf8.decode s pos).1 = 92
      · have qa : (((Utf8.decode s pos).1 : Int) == 92) = true := by simp; omega
        have Ea := Lib.hid ea
        clear ea
        go_wp2_with (first | (go_at_call 32; refine (step_rune s pos _ hp HM.out hst').mono ?_; rintro e w' ⟨rfl, rfl⟩) | (at_builtin; refine wp_append_string (w := wr) rfl _ _ rfl w.heap.size _ acc rfl HR.out ⟨#[92, 92]⟩ rfl ?c3 ?c4 ?_))
        case c3 => show _ + 2 ≤ _; omega
        case c4 => omega
        intro v' W2 hrow' hb'
        go_wp2
        go_roundw
        case rel => exact ⟨_, _, by go_num, RefEscInv.next hp [92, 92] (by rw [HP.out, Ea.out]; rfl) hbw HE.out hal hrow' hb'⟩
        case measure => simp [intOf]; omega
      have qa : (((Utf8.decode s pos).1 : Int) == 92) = false := by simp; omega
      have Ea := Lib.hid ea
      clear ea
      by_cases eb : (Utf8.decode s pos).1 = 10
      · have qb : (((Utf8.decode s pos).1 : Int) == 10) = true := by simp; omega
        have Eb := Lib.hid eb
        clear eb
        go_wp2_with (first | (go_at_call 32; refine (step_rune s pos _ hp HM.out hst').mono ?_; rintro e w' ⟨rfl, rfl⟩) | (at_builtin; refine wp_append_string (w := wr) rfl _ _ rfl w.heap.size _ acc rfl HR.out ⟨#[92, 110]⟩ rfl ?c3 ?c4 ?_))
        case c3 => show _ + 2 ≤ _; omega
        case c4 => omega
        intro v' W2 hrow' hb'
        go_wp2
        go_roundw
        case rel => exact ⟨_, _, by go_num, RefEscInv.next hp [92, 110] (by rw [HP.out, Eb.out]; rfl) hbw HE.out hal hrow' hb'⟩
        case measure => simp [intOf]; omega
      have qb : (((Utf8.decode s pos).1 : Int) == 10) = false := by simp; omega
      have Eb := Lib.hid eb
      clear eb
      by_cases ec : (Utf8.decode s pos).1 = 13
      · have qc : (((Utf8.decode s pos).1 : Int) == 13) = true := by simp; omega
        have Ec := Lib.hid ec
        clear ec
        go_wp2_with (first | (go_at_call 32; refine (step_rune s pos _ hp HM.out hst').mono ?_; rintro e w' ⟨rfl, rfl⟩) | (at_builtin; refine wp_append_string (w := wr) rfl _ _ rfl w.heap.size _ acc rfl HR.out ⟨#[92, 114]⟩ rfl ?c3 ?c4 ?_))
        case c3 => show _ + 2 ≤ _; omega
        case c4 => omega
        intro v' W2 hrow' hb'
        go_wp2
        go_roundw
        case rel => exact ⟨_, _, by go_num, RefEscInv.next hp [92, 114] (by rw [HP.out, Ec.out]; rfl) hbw HE.out hal hrow' hb'⟩
        case measure => simp [intOf]; omega
      have qc : (((Utf8.decode s pos).1 : Int) == 13) = false := by simp; omega
      have Ec := Lib.hid ec
      clear ec
      by_cases ed : (Utf8.decode s pos).1 = 9
      · have qd : (((Utf8.decode s pos).1 : Int) == 9) = true := by simp; omega
        have Ed := Lib.hid ed
        clear ed
        go_wp2_with (first | (go_at_call 32; refine (step_rune s pos _ hp HM.out hst').mono ?_; rintro e w' ⟨rfl, rfl⟩) | (at_builtin; refine wp_append_string (w := wr) rfl _ _ rfl w.heap.size _ acc rfl HR.out ⟨#[92, 116]⟩ rfl ?c3 ?c4 ?_))
        case c3 => show _ + 2 ≤ _; omega
        case c4 => omega
        intro v' W2 hrow' hb'
        go_wp2
        go_roundw
        case rel => exact ⟨_, _, by go_num, RefEscInv.next hp [92, 116] (by rw [HP.out, Ed.out]; rfl) hbw HE.out hal hrow' hb'⟩
        case measure => simp [intOf]; omega
      have qd : (((Utf8.decode s pos).1 : Int) == 9) = false := by simp; omega
      have Ed := Lib.hid ed
      clear ed
      by_cases e1 : 32 ≤ (Utf8.decode s pos).1
      · by_cases e2 : (Utf8.decode s pos).1 ≤ 126
        · go_wp2_with (first | (go_at_call 32; refine (step_rune s pos _ hp HM.out hst').mono ?_; rintro e w' ⟨rfl, rfl⟩) | (at_builtin; refine wp_append_new (w := wr) rfl _ _ rfl w.heap.size u3 acc rfl HR.out [(Utf8.decode s pos).1.toUInt8] _ 1 rfl rfl (cells_low e2) ?c1 ?c2 ?_))
          case c1 => omega
          case c2 => omega
          intro v' W2 hrow' hb'
          go_wp2
          go_roundw
          case rel => exact ⟨_, _, by go_num, RefEscInv.next hp _ (by rw [HP.out, esc_plain Ea.out ⟨e1, e2⟩]) hbw HE.out hal hrow' hb'⟩
          case measure => simp [intOf]; omega
        · by_cases e3 : (Utf8.decode s pos).1 ≤ 65535
          · go_wp2_with (first | (go_at_call 32; refine (step_rune s pos _ hp HM.out hst').mono ?_; rintro e w' ⟨rfl, rfl⟩) | (go_at_call 45; refine (refHex_any (Utf8.decode s pos).1 4 _ (by omega) (by omega)).mono ?_))
            rintro e W1 ⟨rfl, b1⟩
            have hs1 := b1.size
            have HR1 := Lib.hid (Row.later HR.out b1)
            have hh8 : (hexTop ((Utf8.decode s pos).1) 4).length ≤ 6 := by rw [hexTop_length]; omega
            have hcat := cat_str [92, 117] (hexTop ((Utf8.decode s pos).1) 4)
            have HCAT := Lib.hid hcat
            clear hcat
            have hxs : ((⟨#[92, 117]⟩ : ByteArray) ++ ⟨(hexTop ((Utf8.decode s pos).1) 4).toArray⟩).size ≤ 8 := by rw [show (⟨#[92, 117]⟩ : ByteArray) = ⟨[92, 117].toArray⟩ from rfl, HCAT.out]; show ([92, 117] ++ hexTop ((Utf8.decode s pos).1) 4).toArray.size ≤ 8; simp [hexTop_length]
            go_wp2_with (at_builtin; refine wp_append_string (w := W1) rfl _ _ rfl w.heap.size _ acc rfl HR1.out (⟨#[92, 117]⟩ ++ ⟨(hexTop ((Utf8.decode s pos).1) 4).toArray⟩) rfl ?c3 ?c4 ?_)
            case c3 => omega
            case c4 => omega
            intro v' W2 hrow' hb'
            have hrow2 := Lib.hid (row_cat (c := 117) hrow')
            clear hrow'
            go_wp2
            go_roundw
            case rel => exact ⟨_, _, by go_num, RefEscInv.next hp ([92, 117] ++ hexTop ((Utf8.decode s pos).1) 4) (by rw [HP.out, esc_hex4 Ea.out Eb.out Ec.out Ed.out (by omega) e3]) hbw HE.out hal hrow2.out ((b1.mono hsz).trans hb')⟩
            case measure => simp [intOf]; omega
          · go_wp2_with (first | (go_at_call 32; refine (step_rune s pos _ hp HM.out hst').mono ?_; rintro e w' ⟨rfl, rfl⟩) | (go_at_call 45; refine (refHex_any (Utf8.decode s pos).1 6 _ (by omega) (by omega)).mono ?_))
            rintro e W1 ⟨rfl, b1⟩
            have hs1 := b1.size
            have HR1 := Lib.hid (Row.later HR.out b1)
            have hh8 : (hexTop ((Utf8.decode s pos).1) 6).length ≤ 6 := by rw [hexTop_length]; omega
            have hcat := cat_str [92, 85] (hexTop ((Utf8.decode s pos).1) 6)
            have HCAT := Lib.hid hcat
            clear hcat
            have hxs : ((⟨#[92, 85]⟩ : ByteArray) ++ ⟨(hexTop ((Utf8.decode s pos).1) 6).toArray⟩).size ≤ 8 := by rw [show (⟨#[92, 85]⟩ : ByteArray) = ⟨[92, 85].toArray⟩ from rfl, HCAT.out]; show ([92, 85] ++ hexTop ((Utf8.decode s pos).1) 6).toArray.size ≤ 8; simp [hexTop_length]
            go_wp2_with (at_builtin; refine wp_append_string (w := W1) rfl _ _ rfl w.heap.size _ acc rfl HR1.out (⟨#[92, 85]⟩ ++ ⟨(hexTop ((Utf8.decode s pos).1) 6).toArray⟩) rfl ?c3 ?c4 ?_)
            case c3 => omega
            case c4 => omega
            intro v' W2 hrow' hb'
            have hrow2 := Lib.hid (row_cat (c := 85) hrow')
            clear hrow'
            go_wp2
            go_roundw
            case rel => exact ⟨_, _, by go_num, RefEscInv.next hp ([92, 85] ++ hexTop ((Utf8.decode s pos).1) 6) (by rw [HP.out, esc_hex6 (by omega)]) hbw HE.out hal hrow2.out ((b1.mono hsz).trans hb')⟩
            case measure => simp [intOf]; omega
      · have n2 : (Utf8.decode s pos).1 ≤ 65535 := by omega
        have q1 : decide ((32 : Int) ≤ ((Utf8.decode s pos).1 : Int)) = false := decide_eq_false (by omega)
        have n1 : (Utf8.decode s pos).1 < 32 := by omega
        clear e1
        go_wp2_with (first | (go_at_call 32; refine (step_rune s pos _ hp HM.out hst').mono ?_; rintro e w' ⟨rfl, rfl⟩) | (go_at_call 45; refine (refHex_any (Utf8.decode s pos).1 4 _ (by omega) (by omega)).mono ?_))
        rintro e W1 ⟨rfl, b1⟩
        have hs1 := b1.size
        have HR1 := Lib.hid (Row.later HR.out b1)
        have hh8 : (hexTop ((Utf8.decode s pos).1) 4).length ≤ 6 := by rw [hexTop_length]; omega
        have hcat := cat_str [92, 117] (hexTop ((Utf8.decode s pos).1) 4)
        have HCAT := Lib.hid hcat
        clear hcat
        have hxs : ((⟨#[92, 117]⟩ : ByteArray) ++ ⟨(hexTop ((Utf8.decode s pos).1) 4).toArray⟩).size ≤ 8 := by rw [show (⟨#[92, 117]⟩ : ByteArray) = ⟨[92, 117].toArray⟩ from rfl, HCAT.out]; show ([92, 117] ++ hexTop ((Utf8.decode s pos).1) 4).toArray.size ≤ 8; simp [hexTop_length]
        go_wp2_with (at_builtin; refine wp_append_string (w := W1) rfl _ _ rfl w.heap.size _ acc rfl HR1.out (⟨#[92, 117]⟩ ++ ⟨(hexTop ((Utf8.decode s pos).1) 4).toArray⟩) rfl ?c3 ?c4 ?_)
        case c3 => omega
        case c4 => omega
        intro v' W2 hrow' hb'
        have hrow2 := Lib.hid (row_cat (c := 117) hrow')
        clear hrow'
        go_wp2
        go_roundw
        case rel => exact ⟨_, _, by go_num, RefEscInv.next hp ([92, 117] ++ hexTop ((Utf8.decode s pos).1) 4) (by rw [HP.out, esc_hex4 Ea.out Eb.out Ec.out Ed.out (by omega) (by omega)]) hbw HE.out hal hrow2.out ((b1.mono hsz).trans hb')⟩
        case measure => simp [intOf]; omega
    · have hcv := row_string HR.out
      go_wp2
      go_ret
      have e := HE.out
      rw [esc_end hp, List.append_nil] at e
      subst e
      exact ⟨rfl, hbw⟩

set_option maxHeartbeats 1000000 in
set_option maxRecDepth 100000 in
theorem escapes_walk (s : ByteArray) (w : World) (_hs : s.size ≤ maxLen) (hT : TabW w) (hb : s.size ≤ 1048576) :
    Calls Tryd.prog 7 #[.string s] w fun e w' => e = .returned (.bool true) ∧ Below w.heap.size w w' := by
  have HT := Lib.hid hT
  clear hT
  go_enter Tryd.func7, Tryd.ntmps7
  go_wp2_with (go_at_call 25; refine (escape_any _ _ hb).mono ?_)
  rintro e W1 ⟨rfl, b1⟩
  have HT1 := Lib.hid (HT.out.below b1 (Nat.le_refl _))
  have hs1 := b1.size
  go_wp2_with (go_at_call 26; refine (refEscape_any _ _ hb).mono ?_)
  rintro e W2 ⟨rfl, b2⟩
  have HT2 := Lib.hid (HT1.out.below b2 (Nat.le_refl _))
  have hs2 := b2.size
  go_wp2_with (go_at_call 16; refine (awake_any _ HT2.out).mono ?_)
  rintro e W3 ⟨rfl, b3⟩
  go_wp2
  go_ret
  exact ⟨rfl, b1.trans ((b2.mono (by omega)).trans (b3.mono (by omega)))⟩
end Go.Proofs.YtgakophdgjepmaaDoor
