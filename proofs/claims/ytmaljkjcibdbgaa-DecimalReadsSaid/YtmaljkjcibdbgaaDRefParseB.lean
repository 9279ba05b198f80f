/- The reference's Parse. -/
import Derived.Test.YtmaljkjcibdbgaaDRefParseM
import Derived.Test.YtmaljkjcibdbgaaDTold
import Derived.Deep.DeepCutAuto
namespace Go.Proofs.Ytmaljkjcibdbgaa
open Go.RowKit
attribute [local go_sem ↓] Go.wp_at_zero Go.wp_at_succ

set_option maxHeartbeats 8000000 in
set_option maxRecDepth 100000 in
theorem refParse_empty (w : World) : Calls Try.prog 14 #[.string ⟨#[]⟩] w fun e w' => e = .returned (.tuple #[.agg #[.bool false, .string ⟨#[]⟩, .string ⟨#[]⟩], .int .i64 20]) ∧ Below w.heap.size w w' := by
  go_enter Try.func14, Try.ntmps14
  go_wp2
  obtain ⟨W2, hW2⟩ : ∃ W2, W2 = (w.alloc (.cells #[.bool false, .string ⟨#[]⟩, .string ⟨#[]⟩] 23)).alloc (.cells #[.bool false, .string ⟨#[]⟩, .string ⟨#[]⟩] 23) := ⟨_, rfl⟩
  obtain ⟨hb2, hz2, CR, CD, FD⟩ : Below w.heap.size w W2 ∧ w.heap.size + 2 ≤ W2.heap.size ∧ Cells3 W2 w.heap.size (.bool false) (.string ⟨#[]⟩) (.string ⟨#[]⟩) ∧ Cells3 W2 (w.heap.size + 1) (.bool false) (.string ⟨#[]⟩) (.string ⟨#[]⟩) ∧ ∀ i, W2.frozen? ⟨w.heap.size + 1, i, none⟩ = false := by rw [hW2]; exact ⟨below_two w _ _, two_boxes w _ _ _ _ _ _ _⟩
  have FR : ∀ i, W2.frozen? ⟨w.heap.size, i, none⟩ = false := by
    rw [hW2]
    exact frozen_keep (one_box w (.bool false) (.string ⟨#[]⟩) (.string ⟨#[]⟩) 23).2.2 ((Below.refl _ _).alloc (Nat.le_refl _) _) (by simp)
  rw [← hW2]
  clear hW2
  have CR2 := Lib.hid CR
  have FR2 := Lib.hid FR
  have B2 := Lib.hid hb2
  clear CR FR hb2
  obtain ⟨dd0, dd1, dd2⟩ := CD
  go_loop [5] (fun i => i = .int .i64 0) (fun _ => 0)
  case atStart => exact rfl
  case round =>
    obtain rfl := hrel
    go_upto_region 16 with fail
    obtain ⟨W3, hW3⟩ : ∃ W3, W3 = W2.setCell ⟨w.heap.size + 1, 1, none⟩ (.string ByteArray.empty) := ⟨_, rfl⟩
    have fa : ∀ i, W3.cell? ⟨w.heap.size, i, none⟩ = W2.cell? ⟨w.heap.size, i, none⟩ := fun i => by
      rw [hW3]
      exact World.cell?_setCell_other _ _ _ _ (fun e => by have := congrArg Addr.block e; simp at this)
    have CRh : Hid (Cells3 W3 w.heap.size (.bool false) (.string ⟨#[]⟩) (.string ⟨#[]⟩)) := ⟨(fa 0).trans CR2.out.1, (fa 1).trans CR2.out.2.1, (fa 2).trans CR2.out.2.2⟩
    have FRh : Hid (∀ i, W3.frozen? ⟨w.heap.size, i, none⟩ = false) := fun i => by rw [hW3]; simpa using FR2.out i
    have B3 : Hid (Below w.heap.size w W3) := by
      show Below _ _ _
      rw [hW3]
      exact B2.out.setCell (p := ⟨w.heap.size + 1, 1, none⟩) (Nat.le_succ _) _
    have hz3 : w.heap.size + 2 ≤ W3.heap.size := by rw [hW3]; simpa [World.setCell] using hz2
    rw [← hW3]
    clear hW3 fa dd0 dd1 dd2 FD
    obtain ⟨r0, r1, r2⟩ := CRh.out
    have z0 := FRh.out
    obtain ⟨e0, e1, e2⟩ := res_cells r0 r1 r2 (.bool false) (.string ⟨#[]⟩) (.string ⟨#[]⟩)
    go_wp2
    exact bodyPost_ret (v := .tuple #[.agg #[.bool false, .string ⟨#[]⟩, .string ⟨#[]⟩], .int .i64 20]) (by simp [results, Try.results14, go_sem, e0, e1, e2]) rfl ⟨rfl, res_below B3.out (by omega) _ _ _⟩
end Go.Proofs.Ytmaljkjcibdbgaa
