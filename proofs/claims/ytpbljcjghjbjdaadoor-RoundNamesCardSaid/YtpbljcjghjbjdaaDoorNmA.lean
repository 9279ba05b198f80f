/- The names of the eight modes: both sides' Name and ByName. -/
import Derived.Test.YtpbljcjghjbjdaaDoorRnAwk
import Derived.Laws.Rows
namespace Go.Proofs.YtpbljcjghjbjdaaDoor
open Go.RowKit
attribute [local go_sem ↓] Go.wp_at_zero Go.wp_at_succ

/-- The words, by the modes' numbers; 0 none. -/
def nmS (k : Nat) : ByteArray := match k with
  | 1 => ⟨#[117, 112]⟩
  | 2 => ⟨#[100, 111, 119, 110]⟩
  | 3 => ⟨#[99, 101, 105, 108, 105, 110, 103]⟩
  | 4 => ⟨#[102, 108, 111, 111, 114]⟩
  | 5 => ⟨#[104, 97, 108, 102, 45, 117, 112]⟩
  | 6 => ⟨#[104, 97, 108, 102, 45, 100, 111, 119, 110]⟩
  | 7 => ⟨#[104, 97, 108, 102, 45, 101, 118, 101, 110]⟩
  | 8 => ⟨#[110, 111, 110, 101]⟩
  | _ => ⟨#[]⟩
def eqS (a b : ByteArray) : Bool := a.toList == b.toList
/-- The mode of a word, looked for from k on. -/
def byFrom (s : ByteArray) : Nat → Nat → Int × Int
  | 0, _ => (0, 30)
  | n + 1, k => if eqS (nmS (k + 1)) s then ((k : Int) + 1, 0) else byFrom s n (k + 1)
theorem byFrom_hit {s : ByteArray} {n k : Nat} (h : eqS (nmS (k + 1)) s = true) : byFrom s (n + 1) k = ((k : Int) + 1, 0) := by
  unfold byFrom; rw [if_pos h]
theorem byFrom_on {s : ByteArray} {n k : Nat} (h : eqS (nmS (k + 1)) s = false) : byFrom s (n + 1) k = byFrom s n (k + 1) := by
  conv => lhs; unfold byFrom
  rw [if_neg (by rw [h]; decide)]
theorem byFrom_all : ((List.range 8).all fun k => decide (byFrom (nmS (k + 1)) 8 0 = ((k : Int) + 1, 0))) = true := by decide +kernel
theorem byFrom_self (k : Nat) (h : k < 8) : byFrom (nmS (k + 1)) 8 0 = ((k : Int) + 1, 0) := by
  have := List.all_eq_true.1 byFrom_all k (List.mem_range.2 h)
  exact of_decide_eq_true this
/-- The package's table. -/
def TabN (W : World) : Prop := ∀ k, k < 8 → W.cell? ⟨0, k, none⟩ = some (.string (nmS (k + 1)))

set_option maxHeartbeats 2000000 in
set_option maxRecDepth 100000 in
theorem name_in (k : Nat) (w : World) (hk : k < 8) (hT : TabN w) :
    Calls Tryd.prog 15 #[.int .i64 ((k : Int) + 1)] w fun e w' => e = .returned (.tuple #[.string (nmS (k + 1)), .int .i64 0]) ∧ Below w.heap.size w w' := by
  have h0 := hT k hk
  have q1 : decide ((1 : Int) ≤ (k : Int) + 1) = true := decide_eq_true (by omega)
  have q2 : decide ((k : Int) + 1 ≤ 8) = true := decide_eq_true (by omega)
  go_enter Tryd.func15, Tryd.ntmps15
  go_wp2
  go_ret2
  exact ⟨rfl, Below.refl _ _⟩
set_option maxHeartbeats 2000000 in
set_option maxRecDepth 100000 in
theorem name_out (m : Int) (w : World) (hm : ¬ (1 ≤ m ∧ m ≤ 8)) :
    Calls Tryd.prog 15 #[.int .i64 m] w fun e w' => e = .returned (.tuple #[.string ⟨#[]⟩, .int .i64 30]) ∧ Below w.heap.size w w' := by
  by_cases h1 : 1 ≤ m
  · have q1 : decide ((1 : Int) ≤ m) = true := decide_eq_true h1
    have q2 : decide (m ≤ 8) = false := decide_eq_false (by omega)
    clear hm
    go_enter Tryd.func15, Tryd.ntmps15
    go_wp2
    go_ret2
    exact ⟨rfl, Below.refl _ _⟩
  · have q1 : decide ((1 : Int) ≤ m) = false := decide_eq_false h1
    clear hm
    go_enter Tryd.func15, Tryd.ntmps15
    go_wp2
    go_ret2
    exact ⟨rfl, Below.refl _ _⟩
set_option maxHeartbeats 2000000 in
set_option maxRecDepth 100000 in
theorem byname_any (s : ByteArray) (w : World) (hT : TabN w) :
    Calls Tryd.prog 17 #[.string s] w fun e w' => e = .returned (.tuple #[.int .i64 (byFrom s 8 0).1, .int .i64 (byFrom s 8 0).2]) ∧ Below w.heap.size w w' := by
  have t0 : w.cell? ⟨0, 0, none⟩ = some (.string (nmS 1)) := hT 0 (by omega)
  have t1 : w.cell? ⟨0, 1, none⟩ = some (.string (nmS 2)) := hT 1 (by omega)
  have t2 : w.cell? ⟨0, 2, none⟩ = some (.string (nmS 3)) := hT 2 (by omega)
  have t3 : w.cell? ⟨0, 3, none⟩ = some (.string (nmS 4)) := hT 3 (by omega)
  have t4 : w.cell? ⟨0, 4, none⟩ = some (.string (nmS 5)) := hT 4 (by omega)
  have t5 : w.cell? ⟨0, 5, none⟩ = some (.string (nmS 6)) := hT 5 (by omega)
  have t6 : w.cell? ⟨0, 6, none⟩ = some (.string (nmS 7)) := hT 6 (by omega)
  have t7 : w.cell? ⟨0, 7, none⟩ = some (.string (nmS 8)) := hT 7 (by omega)
  have i0 : ∀ wx : World, (Instr.index 82 (.agg #[.string (nmS 1), .string (nmS 2), .string (nmS 3), .string (nmS 4), .string (nmS 5), .string (nmS 6), .string (nmS 7), .string (nmS 8)]) (.int .i64 0)).run Tryd.prog wx = .ok (.string (nmS 1)) wx := fun _ => by kernel_rfl
  have i1 : ∀ wx : World, (Instr.index 82 (.agg #[.string (nmS 1), .string (nmS 2), .string (nmS 3), .string (nmS 4), .string (nmS 5), .string (nmS 6), .string (nmS 7), .string (nmS 8)]) (.int .i64 1)).run Tryd.prog wx = .ok (.string (nmS 2)) wx := fun _ => by kernel_rfl
  have i2 : ∀ wx : World, (Instr.index 82 (.agg #[.string (nmS 1), .string (nmS 2), .string (nmS 3), .string (nmS 4), .string (nmS 5), .string (nmS 6), .string (nmS 7), .string (nmS 8)]) (.int .i64 2)).run Tryd.prog wx = .ok (.string (nmS 3)) wx := fun _ => by kernel_rfl
  have i3 : ∀ wx : World, (Instr.index 82 (.agg #[.string (nmS 1), .string (nmS 2), .string (nmS 3), .string (nmS 4), .string (nmS 5), .string (nmS 6), .string (nmS 7), .string (nmS 8)]) (.int .i64 3)).run Tryd.prog wx = .ok (.string (nmS 4)) wx := fun _ => by kernel_rfl
  have i4 : ∀ wx : World, (Instr.index 82 (.agg #[.string (nmS 1), .string (nmS 2), .string (nmS 3), .string (nmS 4), .string (nmS 5), .string (nmS 6), .string (nmS 7), .string (nmS 8)]) (.int .i64 4)).run Tryd.prog wx = .ok (.string (nmS 5)) wx := fun _ => by kernel_rfl
  have i5 : ∀ wx : World, (Instr.index 82 (.agg #[.string (nmS 1), .string (nmS 2), .string (nmS 3), .string (nmS 4), .string (nmS 5), .string (nmS 6), .string (nmS 7), .string (nmS 8)]) (.int .i64 5)).run Tryd.prog wx = .ok (.string (nmS 6)) wx := fun _ => by kernel_rfl
  have i6 : ∀ wx : World, (Instr.index 82 (.agg #[.string (nmS 1), .string (nmS 2), .string (nmS 3), .string (nmS 4), .string (nmS 5), .string (nmS 6), .string (nmS 7), .string (nmS 8)]) (.int .i64 6)).run Tryd.prog wx = .ok (.string (nmS 7)) wx := fun _ => by kernel_rfl
  have i7 : ∀ wx : World, (Instr.index 82 (.agg #[.string (nmS 1), .string (nmS 2), .string (nmS 3), .string (nmS 4), .string (nmS 5), .string (nmS 6), .string (nmS 7), .string (nmS 8)]) (.int .i64 7)).run Tryd.prog wx = .ok (.string (nmS 8)) wx := fun _ => by kernel_rfl
  go_enter Tryd.func17, Tryd.ntmps17
  go_wp2
  go_loopw [7] (fun i wr => ∃ z : Int, i = .int .i64 z ∧ 0 ≤ z ∧ z ≤ 8 ∧ wr = w ∧ byFrom s 8 0 = byFrom s (8 - z.toNat) z.toNat) (fun i _ => 8 - (intOf i).toNat)
  case atStart => exact ⟨0, rfl, by omega, by omega, rfl, rfl⟩
  case round =>
    obtain ⟨z, rfl, hk, hk2, rfl, hE⟩ := hrel
    have HE := Lib.hid hE
    clear hE
    by_cases hlt : z < 8
    · rcases (show z = 0 ∨ z = 1 ∨ z = 2 ∨ z = 3 ∨ z = 4 ∨ z = 5 ∨ z = 6 ∨ z = 7 by omega) with rfl | rfl | rfl | rfl | rfl | rfl | rfl | rfl
      all_goals
        clear hk hk2 hlt
      · cases hq : eqS (nmS 1) s with
        | true =>
          have HE2 := Lib.hid (HE.out.trans (byFrom_hit (s := s) (n := 7) (k := 0) hq))
          unfold eqS at hq
          go_wp2
          go_ret2
          exact ⟨by rw [HE2.out]; rfl, Below.refl _ _⟩
        | false =>
          have HE2 := Lib.hid (HE.out.trans (byFrom_on (s := s) (n := 7) (k := 0) hq))
          unfold eqS at hq
          go_wp2
          go_roundw
          case rel => exact ⟨1, rfl, by decide, by decide, by trivial, HE2.out⟩
          case measure => decide
      · cases hq : eqS (nmS 2) s with
        | true =>
          have HE2 := Lib.hid (HE.out.trans (byFrom_hit (s := s) (n := 6) (k := 1) hq))
          unfold eqS at hq
          go_wp2
          go_ret2
          exact ⟨by rw [HE2.out]; rfl, Below.refl _ _⟩
        | false =>
          have HE2 := Lib.hid (HE.out.trans (byFrom_on (s := s) (n := 6) (k := 1) hq))
          unfold eqS at hq
          go_wp2
          go_roundw
          case rel => exact ⟨2, rfl, by decide, by decide, by trivial, HE2.out⟩
          case measure => decide
      · cases hq : eqS (nmS 3) s with
        | true =>
          have HE2 := Lib.hid (HE.out.trans (byFrom_hit (s := s) (n := 5) (k := 2) hq))
          unfold eqS at hq
          go_wp2
          go_ret2
          exact ⟨by rw [HE2.out]; rfl, Below.refl _ _⟩
        | false =>
          have HE2 := Lib.hid (HE.out.trans (byFrom_on (s := s) (n := 5) (k := 2) hq))
          unfold eqS at hq
          go_wp2
          go_roundw
          case rel => exact ⟨3, rfl, by decide, by decide, by trivial, HE2.out⟩
          case measure => decide
      · cases hq : eqS (nmS 4) s with
        | true =>
          have HE2 := Lib.hid (HE.out.trans (byFrom_hit (s := s) (n := 4) (k := 3) hq))
          unfold eqS at hq
          go_wp2
          go_ret2
          exact ⟨by rw [HE2.out]; rfl, Below.refl _ _⟩
        | false =>
          have HE2 := Lib.hid (HE.out.trans (byFrom_on (s := s) (n := 4) (k := 3) hq))
          unfold eqS at hq
          go_wp2
          go_roundw
          case rel => exact ⟨4, rfl, by decide, by decide, by trivial, HE2.out⟩
          case measure => decide
      · cases hq : eqS (nmS 5) s with
        | true =>
          have HE2 := Lib.hid (HE.out.trans (byFrom_hit (s := s) (n := 3) (k := 4) hq))
          unfold eqS at hq
          go_wp2
          go_ret2
          exact ⟨by rw [HE2.out]; rfl, Below.refl _ _⟩
        | false =>
          have HE2 := Lib.hid (HE.out.trans (byFrom_on (s := s) (n := 3) (k := 4) hq))
          unfold eqS at hq
          go_wp2
          go_roundw
          case rel => exact ⟨5, rfl, by decide, by decide, by trivial, HE2.out⟩
          case measure => decide
      · cases hq : eqS (nmS 6) s with
        | true =>
          have HE2 := Lib.hid (HE.out.trans (byFrom_hit (s := s) (n := 2) (k := 5) hq))
          unfold eqS at hq
          go_wp2
          go_ret2
          exact ⟨by rw [HE2.out]; rfl, Below.refl _ _⟩
        | false =>
          have HE2 := Lib.hid (HE.out.trans (byFrom_on (s := s) (n := 2) (k := 5) hq))
          unfold eqS at hq
          go_wp2
          go_roundw
          case rel => exact ⟨6, rfl, by decide, by decide, by trivial, HE2.out⟩
          case measure => decide
      · cases hq : eqS (nmS 7) s with
        | true =>
          have HE2 := Lib.hid (HE.out.trans (byFrom_hit (s := s) (n := 1) (k := 6) hq))
          unfold eqS at hq
          go_wp2
          go_ret2
          exact ⟨by rw [HE2.out]; rfl, Below.refl _ _⟩
        | false =>
          have HE2 := Lib.hid (HE.out.trans (byFrom_on (s := s) (n := 1) (k := 6) hq))
          unfold eqS at hq
          go_wp2
          go_roundw
          case rel => exact ⟨7, rfl, by decide, by decide, by trivial, HE2.out⟩
          case measure => decide
      · cases hq : eqS (nmS 8) s with
        | true =>
          have HE2 := Lib.hid (HE.out.trans (byFrom_hit (s := s) (n := 0) (k := 7) hq))
          unfold eqS at hq
          go_wp2
          go_ret2
          exact ⟨by rw [HE2.out]; rfl, Below.refl _ _⟩
        | false =>
          have HE2 := Lib.hid (HE.out.trans (byFrom_on (s := s) (n := 0) (k := 7) hq))
          unfold eqS at hq
          go_wp2
          go_roundw
          case rel => exact ⟨8, rfl, by decide, by decide, by trivial, HE2.out⟩
          case measure => decide
    · obtain rfl : z = 8 := by omega
      go_wp2
      go_ret2
      exact ⟨by rw [HE.out]; rfl, Below.refl _ _⟩
end Go.Proofs.YtpbljcjghjbjdaaDoor
