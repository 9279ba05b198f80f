/- The names of the categories: both sides' Name and ByName. -/
import Derived.Test.YtebbmelmifffgaaDoorMkF
import Derived.Laws.Rows
namespace Go.Proofs.YtebbmelmifffgaaDoor
open Go.RowKit

def eqC (a b : ByteArray) : Bool := a.toList == b.toList
theorem eqC_comm (a b : ByteArray) : (b.toList == a.toList) = eqC a b := by
  unfold eqC
  rw [Bool.eq_iff_iff, beq_iff_eq, beq_iff_eq]
  exact eq_comm
/-- The category of a name, looked for from k on. -/
def catFrom (s : ByteArray) : Nat → Nat → Int × Int
  | 0, _ => (0, 61)
  | n + 1, k => if eqC (nmC k) s then ((k : Int), 0) else catFrom s n (k + 1)
theorem catFrom_hit {s : ByteArray} {n k : Nat} (h : eqC (nmC k) s = true) : catFrom s (n + 1) k = ((k : Int), 0) := by
  unfold catFrom; rw [if_pos h]
theorem catFrom_on {s : ByteArray} {n k : Nat} (h : eqC (nmC k) s = false) : catFrom s (n + 1) k = catFrom s n (k + 1) := by
  conv => lhs; unfold catFrom
  rw [if_neg (by rw [h]; decide)]

set_option maxHeartbeats 2000000 in
set_option maxRecDepth 100000 in
theorem cname_out (m : Int) (w : World) (hm : catB m = false) :
    Calls Tryd.prog 19 #[.int .i64 m] w fun e w' => e = .returned (.tuple #[.string ⟨#[]⟩, .int .i64 61]) ∧ Below w.heap.size w w' := by
  have D := Lib.hid (fun wx => isCat_any m wx)
  rw [hm] at D
  clear hm
  go_enter Tryd.func19, Tryd.ntmps19
  go_wp2_with fail
  (with_reducible refine (D.out _).mono ?_)
  rintro e w1 ⟨rfl, hb⟩
  have HB := Lib.hid hb
  clear hb
  go_wp2
  go_ret2
  exact ⟨rfl, HB.out⟩

set_option maxHeartbeats 4000000 in
set_option maxRecDepth 100000 in
theorem cbyname_any (s : ByteArray) (w : World) (hT : TabC w) :
    Calls Tryd.prog 22 #[.string s] w fun e w' => e = .returned (.tuple #[.int .i64 (catFrom s 6 0).1, .int .i64 (catFrom s 6 0).2]) ∧ Below w.heap.size w w' := by
  have t0 : w.cell? ⟨0, 0, none⟩ = some (.string (nmC 0)) := hT.at_ 0 (by omega)
  have t1 : w.cell? ⟨0, 1, none⟩ = some (.string (nmC 1)) := hT.at_ 1 (by omega)
  have t2 : w.cell? ⟨0, 2, none⟩ = some (.string (nmC 2)) := hT.at_ 2 (by omega)
  have t3 : w.cell? ⟨0, 3, none⟩ = some (.string (nmC 3)) := hT.at_ 3 (by omega)
  have t4 : w.cell? ⟨0, 4, none⟩ = some (.string (nmC 4)) := hT.at_ 4 (by omega)
  have t5 : w.cell? ⟨0, 5, none⟩ = some (.string (nmC 5)) := hT.at_ 5 (by omega)
  have i0 : ∀ wx : World, (Instr.index 84 (.agg #[.string (nmC 0), .string (nmC 1), .string (nmC 2), .string (nmC 3), .string (nmC 4), .string (nmC 5)]) (.int .i64 0)).run Tryd.prog wx = .ok (.string (nmC 0)) wx := fun _ => by kernel_rfl
  have i1 : ∀ wx : World, (Instr.index 84 (.agg #[.string (nmC 0), .string (nmC 1), .string (nmC 2), .string (nmC 3), .string (nmC 4), .string (nmC 5)]) (.int .i64 1)).run Tryd.prog wx = .ok (.string (nmC 1)) wx := fun _ => by kernel_rfl
  have i2 : ∀ wx : World, (Instr.index 84 (.agg #[.string (nmC 0), .string (nmC 1), .string (nmC 2), .string (nmC 3), .string (nmC 4), .string (nmC 5)]) (.int .i64 2)).run Tryd.prog wx = .ok (.string (nmC 2)) wx := fun _ => by kernel_rfl
  have i3 : ∀ wx : World, (Instr.index 84 (.agg #[.string (nmC 0), .string (nmC 1), .string (nmC 2), .string (nmC 3), .string (nmC 4), .string (nmC 5)]) (.int .i64 3)).run Tryd.prog wx = .ok (.string (nmC 3)) wx := fun _ => by kernel_rfl
  have i4 : ∀ wx : World, (Instr.index 84 (.agg #[.string (nmC 0), .string (nmC 1), .string (nmC 2), .string (nmC 3), .string (nmC 4), .string (nmC 5)]) (.int .i64 4)).run Tryd.prog wx = .ok (.string (nmC 4)) wx := fun _ => by kernel_rfl
  have i5 : ∀ wx : World, (Instr.index 84 (.agg #[.string (nmC 0), .string (nmC 1), .string (nmC 2), .string (nmC 3), .string (nmC 4), .string (nmC 5)]) (.int .i64 5)).run Tryd.prog wx = .ok (.string (nmC 5)) wx := fun _ => by kernel_rfl
  clear hT
  go_enter Tryd.func22, Tryd.ntmps22
  go_wp2
  go_loopw [7] (fun i wr => ∃ z : Int, i = .int .i64 z ∧ 0 ≤ z ∧ z ≤ 6 ∧ wr = w ∧ Hid (catFrom s 6 0 = catFrom s (6 - z.toNat) z.toNat)) (fun i _ => 6 - (intOf i).toNat)
  case atStart => exact ⟨0, rfl, by omega, by omega, rfl, Lib.hid rfl⟩
  case round =>
    obtain ⟨z, rfl, hk, hk2, rfl, HE⟩ := hrel
    by_cases hlt : z < 6
    · rcases (show z = 0 ∨ z = 1 ∨ z = 2 ∨ z = 3 ∨ z = 4 ∨ z = 5 by omega) with rfl | rfl | rfl | rfl | rfl | rfl
      all_goals
        clear hk hk2 hlt
      · cases hq : eqC (nmC 0) s with
        | true =>
          have HE2 := Lib.hid (HE.out.trans (catFrom_hit (s := s) (n := 5) (k := 0) hq))
          have hq2 := (eqC_comm (nmC 0) s).trans hq
          clear HE hq
          go_wp2
          go_ret2
          exact ⟨by rw [HE2.out]; rfl, Below.refl _ _⟩
        | false =>
          have HE2 := Lib.hid (HE.out.trans (catFrom_on (s := s) (n := 5) (k := 0) hq))
          have hq2 := (eqC_comm (nmC 0) s).trans hq
          clear HE hq
          go_wp2
          go_roundw
          case rel => exact ⟨1, rfl, by decide, by decide, by trivial, HE2⟩
          case measure => decide
      · cases hq : eqC (nmC 1) s with
        | true =>
          have HE2 := Lib.hid (HE.out.trans (catFrom_hit (s := s) (n := 4) (k := 1) hq))
          have hq2 := (eqC_comm (nmC 1) s).trans hq
          clear HE hq
          go_wp2
          go_ret2
          exact ⟨by rw [HE2.out]; rfl, Below.refl _ _⟩
        | false =>
          have HE2 := Lib.hid (HE.out.trans (catFrom_on (s := s) (n := 4) (k := 1) hq))
          have hq2 := (eqC_comm (nmC 1) s).trans hq
          clear HE hq
          go_wp2
          go_roundw
          case rel => exact ⟨2, rfl, by decide, by decide, by trivial, HE2⟩
          case measure => decide
      · cases hq : eqC (nmC 2) s with
        | true =>
          have HE2 := Lib.hid (HE.out.trans (catFrom_hit (s := s) (n := 3) (k := 2) hq))
          have hq2 := (eqC_comm (nmC 2) s).trans hq
          clear HE hq
          go_wp2
          go_ret2
          exact ⟨by rw [HE2.out]; rfl, Below.refl _ _⟩
        | false =>
          have HE2 := Lib.hid (HE.out.trans (catFrom_on (s := s) (n := 3) (k := 2) hq))
          have hq2 := (eqC_comm (nmC 2) s).trans hq
          clear HE hq
          go_wp2
          go_roundw
          case rel => exact ⟨3, rfl, by decide, by decide, by trivial, HE2⟩
          case measure => decide
      · cases hq : eqC (nmC 3) s with
        | true =>
          have HE2 := Lib.hid (HE.out.trans (catFrom_hit (s := s) (n := 2) (k := 3) hq))
          have hq2 := (eqC_comm (nmC 3) s).trans hq
          clear HE hq
          go_wp2
          go_ret2
          exact ⟨by rw [HE2.out]; rfl, Below.refl _ _⟩
        | false =>
          have HE2 := Lib.hid (HE.out.trans (catFrom_on (s := s) (n := 2) (k := 3) hq))
          have hq2 := (eqC_comm (nmC 3) s).trans hq
          clear HE hq
          go_wp2
          go_roundw
          case rel => exact ⟨4, rfl, by decide, by decide, by trivial, HE2⟩
          case measure => decide
      · cases hq : eqC (nmC 4) s with
        | true =>
          have HE2 := Lib.hid (HE.out.trans (catFrom_hit (s := s) (n := 1) (k := 4) hq))
          have hq2 := (eqC_comm (nmC 4) s).trans hq
          clear HE hq
          go_wp2
          go_ret2
          exact ⟨by rw [HE2.out]; rfl, Below.refl _ _⟩
        | false =>
          have HE2 := Lib.hid (HE.out.trans (catFrom_on (s := s) (n := 1) (k := 4) hq))
          have hq2 := (eqC_comm (nmC 4) s).trans hq
          clear HE hq
          go_wp2
          go_roundw
          case rel => exact ⟨5, rfl, by decide, by decide, by trivial, HE2⟩
          case measure => decide
      · cases hq : eqC (nmC 5) s with
        | true =>
          have HE2 := Lib.hid (HE.out.trans (catFrom_hit (s := s) (n := 0) (k := 5) hq))
          have hq2 := (eqC_comm (nmC 5) s).trans hq
          clear HE hq
          go_wp2
          go_ret2
          exact ⟨by rw [HE2.out]; rfl, Below.refl _ _⟩
        | false =>
          have HE2 := Lib.hid (HE.out.trans (catFrom_on (s := s) (n := 0) (k := 5) hq))
          have hq2 := (eqC_comm (nmC 5) s).trans hq
          clear HE hq
          go_wp2
          go_roundw
          case rel => exact ⟨6, rfl, by decide, by decide, by trivial, HE2⟩
          case measure => decide
    · obtain rfl : z = 6 := by omega
      go_wp2
      go_ret2
      exact ⟨by rw [HE.out]; rfl, Below.refl _ _⟩

/-- The reference's words in memory. -/
def WdC (W : World) (b : Nat) : Prop := ∀ k, k < 6 → W.cell? ⟨b, k, none⟩ = some (.string (nmC k))
theorem WdC.keep {W w' : World} {b : Nat} (h : WdC W b) (hb : Below W.heap.size W w') (hl : b < W.heap.size) : WdC w' b := fun k hk => (hb.cell (p := ⟨b, k, none⟩) hl).trans (h k hk)
theorem wordsC_box (w : World) (t : TypeId) : WdC (w.alloc (.cells #[.string (nmC 0), .string (nmC 1), .string (nmC 2), .string (nmC 3), .string (nmC 4), .string (nmC 5)] t)) w.heap.size := by
  intro k hk
  match k, hk with
  | 0, _ => simp
  | 1, _ => simp
  | 2, _ => simp
  | 3, _ => simp
  | 4, _ => simp
  | 5, _ => simp
set_option maxRecDepth 100000 in
theorem wordsC_any (w : World) :
    Calls Tryd.prog 41 #[] w fun e w' => e = .returned (.slice (some ⟨w.heap.size, 0, none⟩) 6 6) ∧ Below w.heap.size w w' ∧ w.heap.size + 1 ≤ w'.heap.size ∧ WdC w' w.heap.size := by
  go_enter Tryd.func41, Tryd.ntmps41
  go_wp2
  go_ret
  exact ⟨rfl, (Below.refl _ _).alloc (Nat.le_refl _) _, by simp, wordsC_box w _⟩

set_option maxHeartbeats 2000000 in
set_option maxRecDepth 100000 in
theorem rcname_in (k : Nat) (w : World) (hk : k < 6) :
    Calls Tryd.prog 20 #[.int .i64 (k : Int)] w fun e w' => e = .returned (.tuple #[.string (nmC k), .int .i64 0]) ∧ Below w.heap.size w w' := by
  have q1 : decide ((k : Int) < 0) = false := decide_eq_false (by omega)
  have q2 : decide (5 < (k : Int)) = false := decide_eq_false (by omega)
  have DW := Lib.hid (fun wx => wordsC_any wx)
  go_enter Tryd.func20, Tryd.ntmps20
  go_wp2_with fail
  (with_reducible refine (DW.out _).mono ?_)
  rintro e V1 ⟨rfl, hb, hz, hw⟩
  have c0 := hw k hk
  have HB := Lib.hid hb
  clear hb hw
  go_wp2
  go_ret2
  exact ⟨rfl, HB.out⟩
set_option maxHeartbeats 2000000 in
set_option maxRecDepth 100000 in
theorem rcname_out (m : Int) (w : World) (hm : catB m = false) :
    Calls Tryd.prog 20 #[.int .i64 m] w fun e w' => e = .returned (.tuple #[.string ⟨#[]⟩, .int .i64 61]) ∧ Below w.heap.size w w' := by
  have hm2 : ¬ (0 ≤ m ∧ m < 6) := by
    intro h
    unfold catB at hm
    rw [decide_eq_true h.1, decide_eq_true h.2] at hm
    cases hm
  clear hm
  by_cases h1 : m < 0
  · have q1 : decide (m < 0) = true := decide_eq_true h1
    clear hm2
    go_enter Tryd.func20, Tryd.ntmps20
    go_wp2
    go_ret2
    exact ⟨rfl, Below.refl _ _⟩
  · have q1 : decide (m < 0) = false := decide_eq_false h1
    have q2 : decide (5 < m) = true := decide_eq_true (by omega)
    clear hm2
    go_enter Tryd.func20, Tryd.ntmps20
    go_wp2
    go_ret2
    exact ⟨rfl, Below.refl _ _⟩
set_option maxHeartbeats 2000000 in
set_option maxRecDepth 100000 in
theorem rcbyname_any (s : ByteArray) (w : World) :
    Calls Tryd.prog 23 #[.string s] w fun e w' => e = .returned (.tuple #[.int .i64 (catFrom s 6 0).1, .int .i64 (catFrom s 6 0).2]) ∧ Below w.heap.size w w' := by
  have DW := Lib.hid (fun wx => wordsC_any wx)
  go_enter Tryd.func23, Tryd.ntmps23
  go_wp2_with fail
  (with_reducible refine (DW.out _).mono ?_)
  rintro e V1 ⟨rfl, hb, hz, hw⟩
  have HB := Lib.hid hb
  have HW := Lib.hid hw
  clear hb hw
  go_wp2
  go_loopw [5] (fun i wr => ∃ k : Nat, i = .int .i64 k ∧ k ≤ 6 ∧ wr = V1 ∧ Hid (catFrom s 6 0 = catFrom s (6 - k) k)) (fun i _ => 6 - (intOf i).toNat)
  case atStart => exact ⟨0, rfl, by omega, rfl, Lib.hid rfl⟩
  case round =>
    obtain ⟨k, rfl, hk, hwr, HE⟩ := hrel
    have hwr2 := hwr.symm
    clear hwr
    subst hwr2
    by_cases hlt : k < 6
    · have c0 := HW.out k hlt
      have hki : (k : Int) < 6 := by omega
      cases hq : eqC (nmC k) s with
      | true =>
        have h1 := catFrom_hit (s := s) (n := 5 - k) hq
        rw [show 5 - k + 1 = 6 - k by omega] at h1
        have HE2 := Lib.hid (HE.out.trans h1)
        unfold eqC at hq
        clear h1
        go_wp2
        go_ret2
        exact ⟨by rw [HE2.out]; rfl, HB.out⟩
      | false =>
        have h1 := catFrom_on (s := s) (n := 5 - k) hq
        rw [show 5 - k + 1 = 6 - k by omega] at h1
        have HE2 := Lib.hid (HE.out.trans h1)
        unfold eqC at hq
        clear h1
        go_wp2
        go_roundw
        case rel => exact ⟨k + 1, by go_num, by omega, by trivial, Lib.hid (by rw [HE2.out, show 6 - (k + 1) = 5 - k by omega])⟩
        case measure => simp [intOf]; omega
    · obtain rfl : k = 6 := by omega
      go_wp2
      go_ret2
      exact ⟨by rw [HE.out]; rfl, HB.out⟩
end Go.Proofs.YtebbmelmifffgaaDoor
