/- RunesBack: what was escaped comes back. -/
import Derived.Test.YtgakophdgjepmaaDoorBackM
namespace Go.Proofs.YtgakophdgjepmaaDoor
open Go.RowKit

theorem escape_as (u t : ByteArray) (w : World) (hs : u.size ≤ 131072) (ht : t = ⟨(escFrom u 0).toArray⟩) :
    Calls Tryd.prog 25 #[.string u] w fun e w' => e = .returned (.string t) ∧ Below w.heap.size w w' := by
  rw [ht]
  exact escape_any u w (by omega)
theorem unescape_as (u t : ByteArray) (w : World) (hs : t.size ≤ 1048576) (ht : unescR t = (u.data.toList, 0, 0)) :
    Calls Tryd.prog 27 #[.string t] w fun e w' => e = .returned (.tuple #[.string u, .int .i64 0, .int .i64 0]) ∧ Below w.heap.size w w' := by
  refine (unescape_any t w (by unfold maxLen; omega)).mono ?_
  rintro e w' ⟨rfl, hb⟩
  exact ⟨by rw [ht]; rfl, hb⟩

set_option maxHeartbeats 1000000 in
set_option maxRecDepth 100000 in
theorem back_walk (s : ByteArray) (w : World) (hs : s.size ≤ maxLen) (hT : TabW w) :
    Calls Tryd.prog 9 #[.string s] w fun e w' => e = .returned (.bool true) ∧ Below w.heap.size w w' := by
  have HT := Lib.hid hT
  clear hT
  by_cases hc : 131072 < s.size
  · obtain ⟨u, hu⟩ : ∃ u : ByteArray, u = s.extract 0 131072 := ⟨_, rfl⟩
    have hus : u.size ≤ 131072 := by rw [hu]; simp; omega
    obtain ⟨t, hte⟩ : ∃ t : ByteArray, t = ⟨(escFrom u 0).toArray⟩ := ⟨_, rfl⟩
    have hf := back_facts u t hus hte
    have q0 : (u.toList == u.toList) = true := beq_self_eq_true _
    have HF := Lib.hid hf.2.2
    have HU := Lib.hid hf.2.1
    have ht1 := hf.1
    clear hf
    have HTE := Lib.hid hte
    have HUS := Lib.hid hus
    clear hte hus
    unfold maxLen at hs
    go_enter Tryd.func9, Tryd.ntmps9
    go_wp2_with fail
    rw [← hu]
    go_wp2_with (go_at_call 25; refine (escape_as u t _ HUS.out HTE.out).mono ?_)
    rintro e W1 ⟨rfl, b1⟩
    have HT1 := Lib.hid (HT.out.below b1 (Nat.le_refl _))
    have hs1 := b1.size
    go_wp2
    go_loop [4] (fun i => ∃ k : Nat, i = .int .i64 k ∧ k ≤ t.size) (fun i => t.size - (intOf i).toNat)
    case atStart => exact ⟨0, rfl, by omega⟩
    case round =>
      obtain ⟨k, rfl, hk⟩ := hrel
      by_cases hlt : k < t.size
      · have hpl := HF.out k hlt
        have p1 : decide ((t[k].toNat : Int) < 32) = false := decide_eq_false (by omega)
        have p2 : decide ((126 : Int) < (t[k].toNat : Int)) = false := decide_eq_false (by omega)
        clear hpl
        go_wp2
        go_round
        case rel => exact ⟨k + 1, by go_num, by omega⟩
        case measure => simp [intOf]; omega
      · go_wp2_with (go_at_call 27; refine (unescape_as u t _ ht1 HU.out).mono ?_)
        intro e W2 he b2
        subst he
        have HT2 := Lib.hid (HT1.out.below b2 (Nat.le_refl _))
        have hs2 := b2.size
        go_wp2_with (go_at_call 16; refine (awake_any _ HT2.out).mono ?_)
        rintro e W3 ⟨rfl, b3⟩
        go_wp2
        go_ret
        exact ⟨rfl, b1.trans ((b2.mono (by omega)).trans (b3.mono (by omega)))⟩
  have hus : s.size ≤ 131072 := by omega
  have qc : decide ((131072 : Int) < (s.size : Int)) = false := decide_eq_false (by omega)
  clear hc
  obtain ⟨t, hte⟩ : ∃ t : ByteArray, t = ⟨(escFrom s 0).toArray⟩ := ⟨_, rfl⟩
  have hf := back_facts s t hus hte
  have q0 : (s.toList == s.toList) = true := beq_self_eq_true _
  have HF := Lib.hid hf.2.2
  have HU := Lib.hid hf.2.1
  have ht1 := hf.1
  clear hf
  have HTE := Lib.hid hte
  have HUS := Lib.hid hus
  clear hte hus
  go_enter Tryd.func9, Tryd.ntmps9
  go_wp2_with (go_at_call 25; refine (escape_as s t _ HUS.out HTE.out).mono ?_)
  rintro e W1 ⟨rfl, b1⟩
  have HT1 := Lib.hid (HT.out.below b1 (Nat.le_refl _))
  have hs1 := b1.size
  go_wp2
  go_loop [4] (fun i => ∃ k : Nat, i = .int .i64 k ∧ k ≤ t.size) (fun i => t.size - (intOf i).toNat)
  case atStart => exact ⟨0, rfl, by omega⟩
  case round =>
    obtain ⟨k, rfl, hk⟩ := hrel
    by_cases hlt : k < t.size
    · have hpl := HF.out k hlt
      have p1 : decide ((t[k].toNat : Int) < 32) = false := decide_eq_false (by omega)
      have p2 : decide ((126 : Int) < (t[k].toNat : Int)) = false := decide_eq_false (by omega)
      clear hpl
      go_wp2
      go_round
      case rel => exact ⟨k + 1, by go_num, by omega⟩
      case measure => simp [intOf]; omega
    · go_wp2_with (go_at_call 27; refine (unescape_as s t _ ht1 HU.out).mono ?_)
      intro e W2 he b2
      subst he
      have HT2 := Lib.hid (HT1.out.below b2 (Nat.le_refl _))
      have hs2 := b2.size
      go_wp2_with (go_at_call 16; refine (awake_any _ HT2.out).mono ?_)
      rintro e W3 ⟨rfl, b3⟩
      go_wp2
      go_ret
      exact ⟨rfl, b1.trans ((b2.mono (by omega)).trans (b3.mono (by omega)))⟩
end Go.Proofs.YtgakophdgjepmaaDoor
