/- The reference's Fill tells fillR. -/
import Derived.Test.YtgakophdgjepmaaDoorFill
import Derived.Test.YtgakophdgjepmaaDoorRow
import Derived.Test.YtgakophdgjepmaaDoorNum
namespace Go.Proofs.YtgakophdgjepmaaDoor
open Go.RowKit

/-- At a brace: the end of the text, no digit, no brace, no such item. -/
def noItem (p : ByteArray) (n k : Nat) : Prop := p.size ≤ k + 2 ∨ ¬ (48 ≤ byteN p (k + 1) ∧ byteN p (k + 1) ≤ 57) ∨ byteN p (k + 2) ≠ 125 ∨ n ≤ byteN p (k + 1) - 48
theorem noItem_of {p : ByteArray} {ss : List ByteArray} {k : Nat} (h : itemN p ss k = none) : noItem p ss.length k := by
  unfold itemN at h
  unfold noItem
  by_cases c : k + 2 < p.size ∧ 48 ≤ byteN p (k + 1) ∧ byteN p (k + 1) ≤ 57 ∧ byteN p (k + 2) = 125
  · rw [if_pos c, List.getElem?_eq_none_iff] at h
    omega
  · omega
theorem item_some {p x : ByteArray} {ss : List ByteArray} {k : Nat} (h : itemN p ss k = some x) : k + 2 < p.size ∧ 48 ≤ byteN p (k + 1) ∧ byteN p (k + 1) ≤ 57 ∧ byteN p (k + 2) = 125 ∧ byteN p (k + 1) - 48 < ss.length ∧ ss.getD (byteN p (k + 1) - 48) ByteArray.empty = x := by
  unfold itemN at h
  by_cases c : k + 2 < p.size ∧ 48 ≤ byteN p (k + 1) ∧ byteN p (k + 1) ≤ 57 ∧ byteN p (k + 2) = 125
  · rw [if_pos c] at h
    obtain ⟨hl, he⟩ := List.getElem?_eq_some_iff.1 h
    exact ⟨c.1, c.2.1, c.2.2.1, c.2.2.2, hl, by rw [List.getD_eq_getElem?_getD, h]; rfl⟩
  · rw [if_neg c] at h
    cases h

theorem row_shape {B : Nat} {v : Value} {l : List UInt8} {w : World} (h : Row B v l w) : ∃ g c, v = .slice g l.length c := by
  rcases h.2 with ⟨rfl, h0⟩ | ⟨g, cap, cur, rfl, _⟩
  · exact ⟨none, 0, by rw [h0]⟩
  · exact ⟨_, _, rfl⟩
theorem row_one {B : Nat} {v : Value} {acc : List UInt8} {p : ByteArray} {k : Nat} {w : World} (hk : k < p.size) (h : Row B v (acc ++ List.take 1 (List.drop k p.data.toList)) w) : Row B v (acc ++ [p.get! k]) w := by
  have e := extract_one p k hk
  rw [Lib.extract_data, Nat.add_sub_cancel_left] at e
  rw [e] at h
  exact h

set_option maxHeartbeats 4000000 in
set_option maxRecDepth 100000 in
theorem refFill_any (p : ByteArray) (ss : List ByteArray) (iv : Value) (w : World) (hs : p.size ≤ maxLen) (h : Strs w.heap.size w iv ss) :
    Calls Tryd.prog 30 #[.string p, iv] w fun e w' => e = fillEnd (fillR p ss) ∧ Below w.heap.size w w' := by
  obtain ⟨a, cap, hiv, hm, hcells⟩ := h
  subst hiv
  by_cases hl : 65536 < p.size
  · unfold maxLen at hs
    go_enter Tryd.func30, Tryd.ntmps30
    go_wp2
    go_ret2
    exact ⟨by rw [show fillR p ss = ([], 2) from if_pos hl]; rfl, Below.refl _ _⟩
  · have HR : Hid (fillR p ss = fillFrom p ss 0 []) := if_neg hl
    have q : decide ((65536 : Int) < (p.size : Int)) = false := decide_eq_false (by omega)
    have HC := Lib.hid hcells
    unfold maxLen at hm
    clear hcells hs
    go_enter Tryd.func30, Tryd.ntmps30
    go_wp2
    go_loopw [6, 7] (fun v i wr => ∃ (k : Nat) (acc : List UInt8), i = .int .i64 k ∧ k ≤ p.size ∧ acc.length ≤ 1048576 ∧ Row w.heap.size v acc wr ∧ Below w.heap.size w wr ∧ fillFrom p ss k acc = fillFrom p ss 0 [] ∧ ∃ g c, v = .slice g acc.length c) (fun _ i _ => p.size - (intOf i).toNat)
    case atStart => exact ⟨0, [], rfl, by omega, by simp, Row.empty w, (Below.refl _ w).alloc (Nat.le_refl _) _, rfl, _, _, rfl⟩
    case round =>
      obtain ⟨k, acc, rfl, hk, hal, hrow, hbw, hE, g, c, rfl⟩ := hrel
      have HE := Lib.hid hE
      have HW := Lib.hid hrow
      have hsz := hbw.size
      clear hE hrow
      by_cases hlt : k < p.size
      · have HK : Hid (p[k].toNat = byteN p k) := byteN_at p k hlt
        by_cases hb : byteN p k = 123
        · have hc : ((p[k].toNat : Int) == 123) = true := by rw [HK.out, hb]; rfl
          have HB := Lib.hid hb
          clear hb
          cases hi : itemN p ss k with
          | none =>
            have HI := Lib.hid hi
            have HN := Lib.hid (noItem_of hi)
            clear hi
            by_cases h2 : p.size ≤ k + 2
            · go_wp2
              go_ret2
              exact ⟨fillEnd_of HR.out HE.out (fill_none hlt HB.out HI.out), hbw⟩
            have b1 := byteN_at p (k + 1) (by omega)
            have b2 := byteN_at p (k + 2) (by omega)
            have B1 := Lib.hid b1
            have B2 := Lib.hid b2
            clear b1 b2
            have q2 : decide ((p.size : Int) ≤ (k : Int) + 2) = false := decide_eq_false (by omega)
            by_cases hd : digB ((p[k + 1]'(by omega)).toNat : Int) = true
            · have hr : 48 ≤ (p[k + 1]'(by omega)).toNat ∧ (p[k + 1]'(by omega)).toNat ≤ 57 := digB_nat hd
              by_cases h125 : (p[k + 2]'(by omega)).toNat = 125
              · have h125' : (((p[k + 2]'(by omega)).toNat : Int) != 125) = false := by simp; omega
                have hn : ss.length ≤ (p[k + 1]'(by omega)).toNat - 48 := by
                  have := HN.out
                  unfold noItem at this
                  rw [B1.out] at hr
                  rw [B2.out] at h125
                  rw [B1.out]
                  omega
                clear h125
                obtain ⟨hr1, hr2⟩ := hr
                go_wp2_with (go_at_call 39; refine (refDigit_any _ _).mono ?_; rintro e w' ⟨rfl, rfl⟩)
                go_ret2
                exact ⟨fillEnd_of HR.out HE.out (fill_none hlt HB.out HI.out), hbw⟩
              · have h125' : (((p[k + 2]'(by omega)).toNat : Int) != 125) = true := by simp; omega
                clear h125 hr
                go_wp2_with (go_at_call 39; refine (refDigit_any _ _).mono ?_; rintro e w' ⟨rfl, rfl⟩)
                go_ret2
                exact ⟨fillEnd_of HR.out HE.out (fill_none hlt HB.out HI.out), hbw⟩
            · have hd' : digB ((p[k + 1]'(by omega)).toNat : Int) = false := by simpa using hd
              clear hd
              go_wp2_with (go_at_call 39; refine (refDigit_any _ _).mono ?_; rintro e w' ⟨rfl, rfl⟩)
              go_ret2
              exact ⟨fillEnd_of HR.out HE.out (fill_none hlt HB.out HI.out), hbw⟩
          | some x =>
            have HI := Lib.hid hi
            obtain ⟨h2, hr1, hr2, h125, hn, hx⟩ := item_some hi
            clear hi
            have b1 := byteN_at p (k + 1) (by omega)
            have b2 := byteN_at p (k + 2) (by omega)
            rw [← b1] at hr1 hr2 hn hx
            rw [← b2] at h125
            obtain ⟨b, off, rfl, hbB, hcell0⟩ := HC.out _ hn
            rw [hx] at hcell0
            have hcell := (hbw.cell (p := ⟨b, off + ((p[k + 1]'(by omega)).toNat - 48), none⟩) (by show b < w.heap.size; omega)).trans hcell0
            clear hcell0 hx b1 b2
            have hd : digB ((p[k + 1]'(by omega)).toNat : Int) = true := decide_eq_true (by omega)
            have q2 : decide ((p.size : Int) ≤ (k : Int) + 2) = false := decide_eq_false (by omega)
            have h125' : (((p[k + 2]'(by omega)).toNat : Int) != 125) = false := by simp; omega
            clear h125
            by_cases hx : 1048576 < acc.length + x.size
            · go_wp2_with (first | (go_at_call 39; refine (refDigit_any _ _).mono ?_; rintro e w' ⟨rfl, rfl⟩))
              go_ret2
              exact ⟨fillEnd_of HR.out HE.out (fill_long hlt HB.out HI.out hx), hbw⟩
            · go_wp2_with (first | (go_at_call 39; refine (refDigit_any _ _).mono ?_; rintro e w' ⟨rfl, rfl⟩) | (at_builtin; refine wp_append_string rfl _ _ rfl w.heap.size _ acc rfl HW.out x rfl ?c3 ?c4 ?_))
              case c3 => omega
              case c4 => omega
              intro v' w' hrow' hb'
              obtain ⟨g', c', rfl⟩ := row_shape hrow'
              go_wp2
              go_roundw
              case rel => exact ⟨k + 3, acc ++ x.data.toList, by go_num, by omega, by rw [List.length_append]; simp; omega, hrow', hbw.trans hb', by rw [← HE.out]; exact (fill_item hlt HB.out HI.out hx).symm, _, _, rfl⟩
              case measure => simp [intOf]; omega
        · have hc : ((p[k].toNat : Int) == 123) = false := by rw [HK.out]; simp; omega
          have HB := Lib.hid hb
          clear hb
          have hx1 : (p.extract k (k + 1)).size = 1 := by simp; omega
          by_cases hx : 1048576 < acc.length + 1
          · go_wp2
            go_ret2
            exact ⟨fillEnd_of HR.out HE.out (fill_over hlt HB.out hx), hbw⟩
          · go_wp2_with (first | (at_builtin; refine wp_append_string rfl _ _ rfl w.heap.size _ acc rfl HW.out (p.extract k (k + 1)) rfl ?c3 ?c4 ?_))
            case c3 => omega
            case c4 => omega
            intro v' w' hrow' hb'
            have hrow2 := Lib.hid (row_one hlt hrow')
            clear hrow'
            obtain ⟨g', c', rfl⟩ := row_shape hrow2.out
            go_wp2
            go_roundw
            case rel => exact ⟨k + 1, acc ++ [p.get! k], by go_num, by omega, by rw [List.length_append]; simp; omega, hrow2.out, hbw.trans hb', by rw [← HE.out]; exact (fill_byte hlt HB.out hx).symm, _, _, rfl⟩
            case measure => simp [intOf]; omega
      · have hcv := row_string HW.out
        go_wp2
        go_ret2
        exact ⟨fillEnd_of HR.out HE.out (fill_end hlt), hbw⟩
end Go.Proofs.YtgakophdgjepmaaDoor
