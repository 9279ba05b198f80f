/- The names of the eight modes: the reference's. -/
import Derived.Test.YtpbljcjghjbjdaaDoorNmA
namespace Go.Proofs.YtpbljcjghjbjdaaDoor
open Go.RowKit
attribute [local go_sem ↓] Go.wp_at_zero Go.wp_at_succ

def Wds (W : World) (b : Nat) : Prop := ∀ k, k < 9 → W.cell? ⟨b, k, none⟩ = some (.string (nmS k))
theorem words_box (w : World) (t : TypeId) : Wds (w.alloc (.cells #[.string ⟨#[]⟩, .string (nmS 1), .string (nmS 2), .string (nmS 3), .string (nmS 4), .string (nmS 5), .string (nmS 6), .string (nmS 7), .string (nmS 8)] t)) w.heap.size := by
  intro k hk
  match k, hk with
  | 0, _ => simp [nmS]
  | 1, _ => simp
  | 2, _ => simp
  | 3, _ => simp
  | 4, _ => simp
  | 5, _ => simp
  | 6, _ => simp
  | 7, _ => simp
  | 8, _ => simp

set_option maxRecDepth 100000 in
theorem words_any (w : World) :
    Calls Tryd.prog 52 #[] w fun e w' => e = .returned (.slice (some ⟨w.heap.size, 0, none⟩) 9 9) ∧ Below w.heap.size w w' ∧ w.heap.size + 1 ≤ w'.heap.size ∧ Wds w' w.heap.size := by
  go_enter Tryd.func52, Tryd.ntmps52
  go_wp2
  go_ret
  exact ⟨rfl, (Below.refl _ _).alloc (Nat.le_refl _) _, by simp, words_box w _⟩

set_option maxHeartbeats 2000000 in
set_option maxRecDepth 100000 in
theorem rname_in (k : Nat) (w : World) (hk : k < 8) :
    Calls Tryd.prog 16 #[.int .i64 ((k : Int) + 1)] w fun e w' => e = .returned (.tuple #[.string (nmS (k + 1)), .int .i64 0]) ∧ Below w.heap.size w w' := by
  have q1 : decide ((k : Int) + 1 < 1) = false := decide_eq_false (by omega)
  have q2 : decide (8 < (k : Int) + 1) = false := decide_eq_false (by omega)
  have DW := Lib.hid (fun wx => words_any wx)
  go_enter Tryd.func16, Tryd.ntmps16
  go_wp2_with fail
  (with_reducible refine (DW.out _).mono ?_)
  rintro e V1 ⟨rfl, hb, hz, hw⟩
  have c0 := hw (k + 1) (by omega)
  have HB := Lib.hid hb
  clear hb hw
  go_wp2
  go_ret2
  exact ⟨rfl, HB.out⟩
set_option maxHeartbeats 2000000 in
set_option maxRecDepth 100000 in
theorem rname_out (m : Int) (w : World) (hm : ¬ (1 ≤ m ∧ m ≤ 8)) :
    Calls Tryd.prog 16 #[.int .i64 m] w fun e w' => e = .returned (.tuple #[.string ⟨#[]⟩, .int .i64 30]) ∧ Below w.heap.size w w' := by
  by_cases h1 : 1 ≤ m
  · have q1 : decide (m < 1) = false := decide_eq_false (by omega)
    have q2 : decide (8 < m) = true := decide_eq_true (by omega)
    clear hm
    go_enter Tryd.func16, Tryd.ntmps16
    go_wp2
    go_ret2
    exact ⟨rfl, Below.refl _ _⟩
  · have q1 : decide (m < 1) = true := decide_eq_true (by omega)
    clear hm
    go_enter Tryd.func16, Tryd.ntmps16
    go_wp2
    go_ret2
    exact ⟨rfl, Below.refl _ _⟩
set_option maxHeartbeats 2000000 in
set_option maxRecDepth 100000 in
theorem rbyname_any (s : ByteArray) (w : World) :
    Calls Tryd.prog 18 #[.string s] w fun e w' => e = .returned (.tuple #[.int .i64 (byFrom s 8 0).1, .int .i64 (byFrom s 8 0).2]) ∧ Below w.heap.size w w' := by
  have DW := Lib.hid (fun wx => words_any wx)
  go_enter Tryd.func18, Tryd.ntmps18
  go_wp2
  go_loopw [4] (fun i wr => ∃ k : Nat, i = .int .i64 ((k : Int) + 1) ∧ k ≤ 8 ∧ Below w.heap.size w wr ∧ byFrom s 8 0 = byFrom s (8 - k) k) (fun i _ => 9 - (intOf i).toNat)
  case atStart => exact ⟨0, rfl, by omega, Below.refl _ _, rfl⟩
  case round =>
    obtain ⟨k, rfl, hk, hB, hE⟩ := hrel
    have HE := Lib.hid hE
    have HB := Lib.hid hB
    clear hE hB
    go_wp2_with fail
    (with_reducible refine (DW.out _).mono ?_)
    rintro e V1 ⟨rfl, hb, -, -⟩
    replace HB := Lib.hid (HB.out.trans (hb.mono HB.out.size))
    clear hb
    by_cases hlt : k < 8
    · go_wp2_with fail
      (with_reducible refine (DW.out _).mono ?_)
      rintro e V2 ⟨rfl, hb, hz, hw⟩
      have c0 := hw (k + 1) (by omega)
      replace HB := Lib.hid (HB.out.trans (hb.mono HB.out.size))
      clear hb hw
      cases hq : eqS (nmS (k + 1)) s with
      | true =>
        have h1 := byFrom_hit (s := s) (n := 7 - k) hq
        rw [show 7 - k + 1 = 8 - k by omega] at h1
        have HE2 := Lib.hid (HE.out.trans h1)
        unfold eqS at hq
        clear h1
        go_wp2
        go_ret2
        exact ⟨by rw [HE2.out]; rfl, HB.out⟩
      | false =>
        have h1 := byFrom_on (s := s) (n := 7 - k) hq
        rw [show 7 - k + 1 = 8 - k by omega] at h1
        have HE2 := Lib.hid (HE.out.trans h1)
        unfold eqS at hq
        clear h1
        go_wp2
        go_roundw
        case rel => exact ⟨k + 1, by go_num, by omega, HB.out, by rw [HE2.out, show 8 - (k + 1) = 7 - k by omega]⟩
        case measure => simp [intOf]; omega
    · obtain rfl : k = 8 := by omega
      go_wp2
      go_ret2
      exact ⟨by rw [HE.out]; rfl, HB.out⟩
end Go.Proofs.YtpbljcjghjbjdaaDoor
