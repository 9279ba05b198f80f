/- The reference's mul and bound of layer 3. -/
import Derived.Test.YtcdmanhhddcmcaaRrAdd
import Derived.Test.YtcdmanhhddcmcaaRrMade
namespace Go.Proofs.Ytcdmanhhddcmcaa
open Go.RowKit
attribute [local go_sem ↓] Go.wp_at_zero Go.wp_at_succ

def boundV (n : Bool) (i f : ByteArray) : Value := if 40 < i.size + f.size then .tuple #[.agg #[.bool false, .string ⟨#[]⟩, .string ⟨#[]⟩], .int .i64 3] else .tuple #[.agg #[.bool n, .string i, .string f], .int .i64 0]
set_option maxHeartbeats 2000000 in
set_option maxRecDepth 100000 in
theorem rbound_any (n : Bool) (i f : ByteArray) (w : World) (hz : i.size + f.size ≤ 1000000) : Calls Try.prog 66 #[.agg #[.bool n, .string i, .string f]] w fun e w' => e = .returned (boundV n i f) ∧ Below w.heap.size w w' := by
  have wz : IntKind.i64.wrap ((i.size : Int) + (f.size : Int)) = (i.size : Int) + (f.size : Int) := IntWalk.i64_in _ (by omega)
  unfold boundV
  by_cases h : 40 < i.size + f.size
  · rw [if_pos h]
    have q : decide ((40 : Int) < (i.size : Int) + (f.size : Int)) = true := decide_eq_true (by omega)
    clear h hz
    go_enter Try.func66, Try.ntmps66
    go_wp2
    exact bodyPost_ret (v := .tuple #[.agg #[.bool false, .string ⟨#[]⟩, .string ⟨#[]⟩], .int .i64 3]) (by simp [results, Try.results66, go_sem]) rfl ⟨rfl, below_two w _ _⟩
  · rw [if_neg h]
    have q : decide ((40 : Int) < (i.size : Int) + (f.size : Int)) = false := decide_eq_false (by omega)
    clear h hz
    go_enter Try.func66, Try.ntmps66
    go_wp2
    exact bodyPost_ret (v := .tuple #[.agg #[.bool n, .string i, .string f], .int .i64 0]) (by simp [results, Try.results66, go_sem]) rfl ⟨rfl, below_two w _ _⟩
end Go.Proofs.Ytcdmanhhddcmcaa
