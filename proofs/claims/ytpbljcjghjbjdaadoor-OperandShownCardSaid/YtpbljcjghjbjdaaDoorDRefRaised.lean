/- raised of the reference. -/
import Derived.Test.YtpbljcjghjbjdaaDoorDRef2
namespace Go.Proofs.YtpbljcjghjbjdaaDoor
open Go.RowKit
attribute [local go_sem ↓] Go.wp_at_zero Go.wp_at_succ

set_option maxHeartbeats 2000000 in
set_option maxRecDepth 100000 in
theorem refRaised_any (d : Dc) (s : Nat) (w : World) (hd : d.Ok) (h1 : d.f.length ≤ s) (h2 : s ≤ 1000) :
    Calls Tryd.prog 107 #[.agg #[.bool d.neg, .string (dStr d.i), .string (dStr d.f)], .int .i64 s] w fun e w' => e = .returned (.string (dStr (digs (d.raised s)))) ∧ Below w.heap.size w w' := by
  have hm := hd.most
  have si : (dStr d.i).size = d.i.length := dStr_size d.i
  have sf : (dStr d.f).size = d.f.length := dStr_size d.f
  obtain ⟨S2, hS2⟩ : ∃ S2, S2 = dStr (List.replicate (s - d.f.length) 0) := ⟨_, rfl⟩
  have hz2 : S2.size ≤ 1000 := by rw [hS2, dStr_size, List.length_replicate]; omega
  have DZ : Hid (∀ (wx : World) {nI : Int}, nI = (s : Int) - (d.f.length : Int) → Calls Tryd.prog 111 #[.int .i64 nI] wx fun r w' => r = .returned (.string S2) ∧ Below wx.heap.size wx w') := fun wx nI h => by
    rw [hS2]
    exact refZeros_any (s - d.f.length) nI wx (by omega) (by omega)
  have DL : Hid (∀ (wx : World) {X : ByteArray}, X = dStr d.i ++ dStr d.f ++ S2 → Calls Tryd.prog 147 #[.string X] wx fun r w' => r = .returned (.string (dStr (digs (d.raised s)))) ∧ wx = w') := fun wx X hX => by
    rw [hX, hS2, dStr_append, dStr_append, ← raised_digs d s]
    exact refLead_any _ wx (.append (.append hd.di hd.df) (.zeros _)) (by rw [List.length_append, List.length_append, List.length_replicate]; omega)
  clear hd hS2
  go_enter Tryd.func107, Tryd.ntmps107
  go_wp2_with fail
  obtain ⟨W2, hW2⟩ : ∃ W2, W2 = w.alloc (.cells #[.bool d.neg, .string (dStr d.i), .string (dStr d.f)] 23) := ⟨_, rfl⟩
  obtain ⟨hb2, hz3, CA, _⟩ : Below w.heap.size w W2 ∧ w.heap.size + 1 ≤ W2.heap.size ∧ Cells3 W2 w.heap.size (.bool d.neg) (.string (dStr d.i)) (.string (dStr d.f)) ∧ ∀ i, W2.frozen? ⟨w.heap.size, i, none⟩ = false := by rw [hW2]; exact ⟨(Below.refl _ w).alloc (Nat.le_refl _) _, one_box w _ _ _ _⟩
  rw [← hW2]
  clear hW2
  have B2 := Lib.hid hb2
  clear hb2
  obtain ⟨a0, a1, a2⟩ := CA
  have HA := Lib.hid (show Cells3 W2 w.heap.size _ _ _ from ⟨a0, a1, a2⟩)
  have wz : IntKind.i64.wrap ((s : Int) - (d.f.length : Int)) = (s : Int) - (d.f.length : Int) := IntWalk.i64_in _ (by omega)
  have g1 : ¬ 9223372036854775807 < d.i.length + d.f.length := by omega
  have g2 : ¬ 9223372036854775807 < d.i.length + d.f.length + S2.size := by omega
  go_region_held3 (fun w' => w'.cell? ⟨w.heap.size, 0, none⟩ = some (.bool d.neg) ∧ w'.cell? ⟨w.heap.size, 1, none⟩ = some (.string (dStr d.i)) ∧ w'.cell? ⟨w.heap.size, 2, none⟩ = some (.string (dStr d.f)))
    (first
      | exact ⟨a0, a1, a2⟩
      | (have t := HA.out.keep (undrew hbA) (by omega); exact ⟨t.1, t.2.1, t.2.2⟩)
      | go_keep)
    (first
      | (go_at_call 111; (with_reducible refine (DZ.out _ ?_).mono ?_); (focus omega); rintro e wA ⟨rfl, hbA⟩)
      | (go_at_call 147; (with_reducible refine (DL.out _ ?_).mono ?_); (focus rfl); rintro e wB ⟨rfl, rfl⟩))
  go_wp2
  go_ret
  exact ⟨rfl, B2.out.trans ((undrew hbA).mono B2.out.size)⟩
end Go.Proofs.YtpbljcjghjbjdaaDoor
