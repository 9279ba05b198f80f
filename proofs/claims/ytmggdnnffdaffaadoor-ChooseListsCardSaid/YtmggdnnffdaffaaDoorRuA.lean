/- Small functions of rule. -/
import Derived.Test.YtmggdnnffdaffaaDoorDInt
import Derived.Test.YtmggdnnffdaffaaDoorDCompare
import Derived.Test.YtmggdnnffdaffaaDoorMkD
namespace Go.Proofs.YtmggdnnffdaffaaDoor
open Go.RowKit
attribute [local go_sem ↓] Go.wp_at_zero Go.wp_at_succ

set_option maxRecDepth 100000 in
theorem rwhole_any (s : ByteArray) (w : World) : Calls Tryd.prog 68 #[.string s] w fun e w' => e = .returned (.agg #[.bool false, .string s, .string ⟨#[]⟩]) ∧ Below w.heap.size w w' := by
  go_enter Tryd.func68, Tryd.ntmps68
  go_wp2
  exact bodyPost_ret (v := .agg #[.bool false, .string s, .string ⟨#[]⟩]) (by simp [results, Tryd.results68, go_sem]) rfl ⟨rfl, (Below.refl _ w).alloc (Nat.le_refl _) _⟩
/-- May digits be a number? -/
def nuB (s : ByteArray) : Bool := okB false s ⟨#[]⟩
set_option maxHeartbeats 2000000 in
set_option maxRecDepth 100000 in
theorem isNumber_any (s : ByteArray) (w : World) (h : s.size ≤ 140737488355328) : Calls Tryd.prog 67 #[.string s] w fun e w' => e = .returned (.bool (nuB s)) ∧ Below w.heap.size w w' := by
  have DW := Lib.hid (fun wx => rwhole_any s wx)
  have DC := fun wx => check_any false s ⟨#[]⟩ wx h (by decide)
  have q : (ckE false s ⟨#[]⟩ == 0) = nuB s := by
    unfold ckE nuB
    cases okB false s ⟨#[]⟩ <;> rfl
  obtain ⟨c, hc⟩ : ∃ c, c = ckE false s ⟨#[]⟩ := ⟨_, rfl⟩
  rw [← hc] at DC q
  rw [← q]
  have DX := Lib.hid DC
  clear DC q hc h
  go_enter Tryd.func67, Tryd.ntmps67
  go_wp2_with fail
  (with_reducible refine (DW.out _).mono ?_)
  rintro e W1 ⟨rfl, hb⟩
  have HB := Lib.hid hb
  clear hb
  go_wp2_with fail
  (with_reducible refine (DX.out _).mono ?_)
  rintro e W2 ⟨rfl, hb⟩
  have HB2 := Lib.hid (HB.out.trans (hb.mono HB.out.size))
  clear hb
  go_wp2
  go_ret
  exact ⟨rfl, HB2.out⟩
end Go.Proofs.YtmggdnnffdaffaaDoor
