/- The reference's Unescape tells unescR; RunesUnescapes. -/
import Derived.Test.YtgakophdgjepmaaDoorRefOne
namespace Go.Proofs.YtgakophdgjepmaaDoor
open Go.RowKit

def RefUnInv (s : ByteArray) (w : World) (v : Value) (k : Nat) (acc : List UInt8) (wr : World) : Prop :=
  k ≤ s.size ∧ Row w.heap.size v acc wr ∧ Below w.heap.size w wr ∧ unescFrom s k acc = unescFrom s 0 [] ∧ acc.length ≤ k
theorem oneN_none (s : ByteArray) (k : Nat) (w : World) (hs : s.size ≤ maxLen) (hk : k < s.size) (h : seqAt s (k + 1) = none) :
    Calls Tryd.prog 48 #[.string s, .int .i64 k] w fun e w' => e = .returned (.tuple #[.string ⟨#[]⟩, .int .i64 0]) ∧ Below w.heap.size w w' := by
  refine (one_any s k w hs hk).mono ?_
  rintro e w' ⟨rfl, hb⟩
  exact ⟨by rw [h]; rfl, hb⟩
theorem oneN_some (s : ByteArray) (k n : Nat) (l : List UInt8) (w : World) (hs : s.size ≤ maxLen) (hk : k < s.size) (h : seqAt s (k + 1) = some (l, n)) :
    Calls Tryd.prog 48 #[.string s, .int .i64 k] w fun e w' => e = .returned (.tuple #[.string ⟨l.toArray⟩, .int .i64 ((n + 1 : Nat) : Int)]) ∧ Below w.heap.size w w' := by
  refine (one_any s k w hs hk).mono ?_
  rintro e w' ⟨rfl, hb⟩
  exact ⟨by rw [h]; rfl, hb⟩
theorem cells_byte {s : ByteArray} {k : Nat} (h : k < s.size) : #[Value.int .u8 (s[k].toNat : Int)] = (Lib.byteCells [s.get! k]).toArray := by
  rw [show s.get! k = s[k]'h from get_at s k h]
  rfl

set_option maxHeartbeats 4000000 in
set_option maxRecDepth 100000 in
theorem refUnescape_any (s : ByteArray) (w : World) (hs : s.size ≤ maxLen) :
    Calls Tryd.prog 28 #[.string s] w fun e w' => e = unEnd (unescR s) ∧ Below w.heap.size w w' := by
  have HM := Lib.hid hs
  by_cases hl : 1048576 < s.size
  · have H : Hid (unescR s = ([], 0, 2)) := if_pos hl
    go_enter Tryd.func28, Tryd.ntmps28
    go_wp2
    go_ret3
    exact ⟨by rw [H.out]; rfl, Below.refl _ _⟩
  have HR : Hid (unescR s = unescFrom s 0 []) := if_neg hl
  have q : decide ((1048576 : Int) < (s.size : Int)) = false := decide_eq_false (by omega)
  clear hs
  go_enter Tryd.func28, Tryd.ntmps28
  go_wp2
  go_loopw [5, 6] (fun v i wr => ∃ (k : Nat) (acc : List UInt8), i = .int .i64 k ∧ RefUnInv s w v k acc wr) (fun _ i _ => s.size - (intOf i).toNat)
  case atStart => exact ⟨0, [], rfl, by omega, Row.empty w, (Below.refl _ w).alloc (Nat.le_refl _) _, rfl, by simp⟩
  case round =>
    obtain ⟨k, acc, rfl, hk, hrow, hbw, hE, hal⟩ := hrel
    have HE := Lib.hid hE
    have HR0 := Lib.hid hrow
    clear hE hrow
    have hsz := hbw.size
    by_cases hlt : k < s.size
    · have HK := Lib.hid (byteN_at s k hlt)
      by_cases hb : byteN s k = 92
      · have hc : ((s[k].toNat : Int) != 92) = false := by rw [HK.out, hb]; rfl
        have HB := Lib.hid hb
        clear hb
        cases hq : seqAt s (k + 1) with
        | none =>
          have HQ := Lib.hid hq
          clear hq
          go_wp2_with (go_at_call 48; refine (oneN_none s k _ HM.out hlt HQ.out).mono ?_)
          rintro e W1 ⟨rfl, b1⟩
          go_wp2
          go_ret3
          exact ⟨unEnd_of HR.out HE.out (un_bad hlt HB.out HQ.out), hbw.trans (b1.mono (by omega))⟩
        | some x =>
          obtain ⟨l, n⟩ := x
          have HQ := Lib.hid hq
          have hn := seqAt_le hq
          clear hq
          have hn0 : (((n + 1 : Nat) : Int) == 0) = false := by simp; omega
          have hls : (ByteArray.mk l.toArray).size ≤ n := by show l.toArray.size ≤ n; simp; omega
          go_wp2_with (go_at_call 48; refine (oneN_some s k n l _ HM.out hlt HQ.out).mono ?_)
          rintro e W1 ⟨rfl, b1⟩
          have hs1 := b1.size
          have HR1 := Lib.hid (Row.later HR0.out b1)
          go_wp2_with (at_builtin; refine wp_append_string (w := W1) rfl _ _ rfl w.heap.size _ acc rfl HR1.out ⟨l.toArray⟩ rfl ?c3 ?c4 ?_)
          case c3 => omega
          case c4 => omega
          intro v' W2 hrow' hb'
          go_wp2
          go_roundw
          case rel => exact ⟨k + 1 + n, acc ++ l, by go_num, by omega, hrow', (hbw.trans (b1.mono (by omega))).trans hb', by rw [← HE.out]; exact (un_seq hlt HB.out HQ.out).symm, by rw [List.length_append]; omega⟩
          case measure => simp [intOf]; omega
      · have hc : ((s[k].toNat : Int) != 92) = true := by rw [HK.out]; simp; omega
        have HB := Lib.hid hb
        clear hb
        go_wp2_with (at_builtin; refine wp_append_new (w := wr) rfl _ _ rfl w.heap.size u5 acc rfl HR0.out [s.get! k] _ 1 rfl rfl (cells_byte hlt) ?c1 ?c2 ?_)
        case c1 => omega
        case c2 => omega
        intro v' W2 hrow' hb'
        go_wp2
        go_roundw
        case rel => exact ⟨k + 1, acc ++ [s.get! k], by go_num, by omega, hrow', hbw.trans hb', by rw [← HE.out]; exact (un_byte hlt HB.out).symm, by rw [List.length_append]; simp; omega⟩
        case measure => simp [intOf]; omega
    · have hcv := row_string HR0.out
      go_wp2
      go_ret3
      exact ⟨unEnd_of HR.out HE.out (un_end hlt), hbw⟩
end Go.Proofs.YtgakophdgjepmaaDoor
