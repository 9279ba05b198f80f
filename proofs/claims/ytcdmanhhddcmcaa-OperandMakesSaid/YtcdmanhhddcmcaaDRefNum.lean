/- Num and raised of the reference. -/
import Derived.Test.YtcdmanhhddcmcaaDRef2
namespace Go.Proofs.Ytcdmanhhddcmcaa
open Go.RowKit
attribute [local go_sem ↓] Go.wp_at_zero Go.wp_at_succ

set_option maxHeartbeats 1000000 in
set_option maxRecDepth 100000 in
theorem refNum_any (d : Dc) (w : World) (hd : d.Ok) :
    Calls Try.prog 74 #[.agg #[.bool d.neg, .string (dStr d.i), .string (dStr d.f)]] w fun e w' => e = .returned (.string (dStr (digs d.num))) ∧ Below w.heap.size w w' := by
  have hm := hd.most
  have si : (dStr d.i).size = d.i.length := dStr_size d.i
  have sf : (dStr d.f).size = d.f.length := dStr_size d.f
  have DL : Hid (∀ wx : World, Calls Try.prog 97 #[.string (dStr d.i ++ dStr d.f)] wx fun r w' => r = .returned (.string (dStr (digs d.num))) ∧ wx = w') := fun wx => by
    rw [dStr_append]
    exact refLead_any (d.i ++ d.f) wx (.append hd.di hd.df) (by rw [List.length_append]; omega)
  have C0 := Lib.hid (one_box w (.bool d.neg) (.string (dStr d.i)) (.string (dStr d.f)) 23).2.1
  clear hd
  go_enter Try.func74, Try.ntmps74
  go_wp2_with fail
  (with_reducible refine (DL.out _).mono ?_)
  rintro e W3 ⟨rfl, rfl⟩
  go_wp2
  go_ret
  exact ⟨rfl, (Below.refl _ w).alloc (Nat.le_refl _) _⟩
end Go.Proofs.Ytcdmanhhddcmcaa
