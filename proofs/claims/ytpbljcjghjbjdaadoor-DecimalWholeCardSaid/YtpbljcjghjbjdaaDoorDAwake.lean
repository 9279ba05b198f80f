/- awake: some of the chapter's examples. -/
import Derived.Test.YtpbljcjghjbjdaaDoorDParseW
import Derived.Test.YtpbljcjghjbjdaaDoorDPrint
namespace Go.Proofs.YtpbljcjghjbjdaaDoor
open Go.RowKit

theorem ask_parse (w : World) : Calls Tryd.prog 48 #[.string ⟨#[45, 49, 50, 46, 53, 48]⟩] w fun e w' => e = .returned (.tuple #[.agg #[.bool true, .string ⟨#[49, 50]⟩, .string ⟨#[53, 48]⟩], .int .i64 0]) ∧ Below w.heap.size w w' := by
  have h : psR ⟨#[45, 49, 50, 46, 53, 48]⟩ = (⟨true, [49, 50], [53, 48]⟩, 0) := by kernel_rfl
  have e : Value.tuple #[.agg #[.bool (psN ⟨#[45, 49, 50, 46, 53, 48]⟩), .string (psI ⟨#[45, 49, 50, 46, 53, 48]⟩), .string (psF ⟨#[45, 49, 50, 46, 53, 48]⟩)], .int .i64 (psE ⟨#[45, 49, 50, 46, 53, 48]⟩)] = .tuple #[.agg #[.bool true, .string ⟨#[49, 50]⟩, .string ⟨#[53, 48]⟩], .int .i64 0] := by
    unfold psN psI psF psE
    rw [h]
  rw [← e]
  exact parse_any _ w (by decide)
def ask1 : Dc := ⟨false, [1], [0]⟩
def ask2 : Dc := ⟨false, [0], [0, 5]⟩
def ask3 : Dc := ⟨false, [1], [0, 5]⟩
theorem digs_of (l : List Nat) (h : l.all (fun d => decide (d < 10)) = true) : Digs l := fun d hd => of_decide_eq_true (List.all_eq_true.1 h d hd)
theorem ask1_ok : ask1.Ok := ⟨digs_of _ rfl, digs_of _ rfl, by decide, by decide, .inl rfl, by decide⟩
theorem ask2_ok : ask2.Ok := ⟨digs_of _ rfl, digs_of _ rfl, by decide, by decide, .inl rfl, by decide⟩
theorem ask3_ok : ask3.Ok := ⟨digs_of _ rfl, digs_of _ rfl, by decide, by decide, .inl rfl, by decide⟩
theorem ask_sum : sumD ask1 ask2 = some ask3 := by
  have h := mk_ok ask3_ok
  have e : ask1.up (max ask1.f.length ask2.f.length) + ask2.up (max ask1.f.length ask2.f.length) = ask3.z := by decide
  unfold sumD
  rw [e]
  exact h
theorem ask_print (w : World) : Calls Tryd.prog 49 #[.agg #[.bool false, .string ⟨#[49]⟩, .string ⟨#[48]⟩]] w fun e w' => e = .returned (.tuple #[.string ⟨#[49, 46, 48]⟩, .int .i64 0]) ∧ Below w.heap.size w w' := by
  have e1 : dStr [1] = ⟨#[49]⟩ := by kernel_rfl
  have e2 : dStr [0] = ⟨#[48]⟩ := by kernel_rfl
  have e3 : txS ask1 = ⟨#[49, 46, 48]⟩ := by kernel_rfl
  have := print_ok ask1 w ask1_ok
  rw [e3] at this
  rw [← e1, ← e2]
  exact this
theorem ask_add (w : World) : Calls Tryd.prog 50 #[.agg #[.bool false, .string ⟨#[49]⟩, .string ⟨#[48]⟩], .agg #[.bool false, .string ⟨#[48]⟩, .string ⟨#[48, 53]⟩]] w fun e w' => e = .returned (.tuple #[.agg #[.bool false, .string ⟨#[49]⟩, .string ⟨#[48, 53]⟩], .int .i64 0]) ∧ Below w.heap.size w w' := by
  have e1 : dStr [1] = ⟨#[49]⟩ := by kernel_rfl
  have e2 : dStr [0] = ⟨#[48]⟩ := by kernel_rfl
  have e3 : dStr [0, 5] = ⟨#[48, 53]⟩ := by kernel_rfl
  have := add_ok ask1 ask2 w _ ask_sum ask1_ok ask2_ok
  rw [← e1, ← e2, ← e3]
  exact this

set_option maxHeartbeats 2000000 in
set_option maxRecDepth 100000 in
theorem awake_any (w : World) :
    Calls Tryd.prog 14 #[] w fun e w' => e = .returned (.bool true) ∧ Below w.heap.size w w' := by
  have D1 := Lib.hid ask_parse
  have D2 := Lib.hid ask_print
  have D3 := Lib.hid ask_add
  go_enter Tryd.func14, Tryd.ntmps14
  go_wp2_with fail
  (with_reducible refine (D1.out _).mono ?_)
  rintro e W1 ⟨rfl, b1⟩
  have B1 := Lib.hid b1
  clear b1
  go_wp2_with fail
  have C2 : Cells3 (W1.alloc (.cells #[.bool true, .string ⟨#[49, 50]⟩, .string ⟨#[53, 48]⟩] 23)) W1.heap.size (.bool true) (.string ⟨#[49, 50]⟩) (.string ⟨#[53, 48]⟩) := (one_box W1 _ _ _ _).2.1
  obtain ⟨W2, hW2⟩ : ∃ W2, W2 = W1.alloc (.cells #[.bool true, .string ⟨#[49, 50]⟩, .string ⟨#[53, 48]⟩] 23) := ⟨_, rfl⟩
  have B2 : Hid (Below w.heap.size w W2) := by show Below _ _ _; rw [hW2]; exact B1.out.alloc B1.out.size _
  have hz2 : W1.heap.size + 1 ≤ W2.heap.size := by rw [hW2]; simp
  rw [← hW2] at C2 ⊢
  clear hW2
  (with_reducible refine (D2.out _).mono ?_)
  rintro e W3 ⟨rfl, b3⟩
  have C3 := C2.keep b3 (by omega)
  have B3 := Lib.hid (B2.out.trans (b3.mono B2.out.size))
  have hz3 : W1.heap.size + 1 ≤ W3.heap.size := by have := b3.size; omega
  clear b3 C2
  go_wp2_with fail
  (with_reducible refine (D3.out _).mono ?_)
  rintro e W4 ⟨rfl, b4⟩
  obtain ⟨c0, c1, c2⟩ := C3.keep b4 (by omega)
  have B4 := Lib.hid (B3.out.trans (b4.mono B3.out.size))
  have hz4 : W1.heap.size + 1 ≤ W4.heap.size := by have := b4.size; omega
  have ba : Below W4.heap.size W4 (W4.alloc (.cells #[.bool false, .string ⟨#[49]⟩, .string ⟨#[48, 53]⟩] 23)) := (Below.refl _ _).alloc (Nat.le_refl _) _
  obtain ⟨d0, d1, d2⟩ := (C3.keep b4 (by omega)).keep ba (by omega)
  clear b4 C3
  go_wp2
  go_ret
  exact ⟨rfl, B4.out.alloc B4.out.size _⟩
end Go.Proofs.YtpbljcjghjbjdaaDoor
